import Derived.Test.YtalmoiogbdahcaaGreatAGhG
import Derived.Test.YtalmoiogbdahcaaGreatAWhoB
import Derived.Test.YtalmoiogbdahcaaGreatATieT
open Go.Proofs.Tryz
namespace Go.Proofs.YtalmoiogbdahcaaGreat
set_option maxRecDepth 100000
set_option maxHeartbeats 8000000
open Go.RowKit Go.Shelf
structure GateQ(U xs now:List BA)(b:Nat)(g:Pg)(w:World):Prop where
 pg:zU w b g
 lk:g.lk=0
 rl:zp w g.mb xs
 tv:zH w g.tv now
 tups:TupsOk U now
 uok:UOk U
 cov:Cov U xs
 sz: ∀t∈qt now,t.2.isTh=true->t.2.k.size+1+t.2.n.size<=maxLen
 inj: ∀t∈qt now,∀t'∈qt now,t.2.isTh=true->t'.2.isTh=true->thT t.2=thT t'.2->t.2=t'.2
variable{U now xs:List BA}{b:Nat}{g:Pg}{w:World}
theorem GateQ.to{w':World}(h:GateQ U xs now b g w)(hk: ∀k,k<w.heap.size->w'.heap[k]?=w.heap[k]?):GateQ U xs now b g w':=by
 refine⟨(hk b (qc h.pg)).trans h.pg,h.lk,?_,?_,h.tups,h.uok,h.cov,h.sz,h.inj⟩
 ·exact h.rl.move (λGd m hm=>hk _ hm.lt) λg cur hg=>hk g (qc hg)
 ·rcases h.tv with e|⟨b,cap,cur,hv,hh,ht⟩
  ·exact Or.inl e
  ·exact Or.inr ⟨b,cap,cur,hv,(hk b (qc hh)).trans hh,ht⟩
theorem KP(HN:Hid xS)(h:GateQ U xs now b g w):
  Calls prog 42 #[.pointer (some ⟨b,0,none⟩)] w λe w'=> ∃tb f who L S lo w1,e=.returned (.pointer (some ⟨tb,0,none⟩))/\w.heap.size<=lo/\Below w.heap.size w w'/\Bld U (qt now) xs lo tb f who L S w1 w':=by
 have h2:=qa h.pg (j:=2) rfl;have hb:b<w.heap.size:=qc h.pg;have HS:Hid (∀w0,Below w.heap.size w w0->Calls prog 50 #[.pointer (some ⟨b,0,none⟩)] w0 λe w1=>e=.returned g.tv/\w1.cell? ⟨b,2,none⟩=some (.map (some g.mb))/\Hid (∀w1',Below w1.heap.size w1 w1'->Calls prog 84 #[.map (some g.mb),g.tv] w1' λe w'=> ∃tb f who L S lo w1,e=.returned (.pointer (some ⟨tb,0,none⟩))/\w.heap.size<=lo/\Below w.heap.size w w'/\Bld U (qt now) xs lo tb f who L S w1 w')):=by
  intro w0 h6;have h0:=h.to h6.block;refine(oE b g w0 h0.pg h.lk).mono ?_;rintro e w1 ⟨he,h8,h4⟩;have h9: ∀k,k<w0.heap.size->w1.heap[k]?=w0.heap[k]?:=by
   intro k hk;by_cases e:k=b
   ·rw[e,h8,h0.pg]
   ·exact h4.block k hk (λe2=>e (Option.some.inj e2.symm).symm)
  have ha:Below w.heap.size w w1:=h6.trans ⟨h4.os,h4.tape,h4.output,h4.size,λk hk=>h9 k (Ug hk h6.size)⟩;refine⟨he,qa h8 (j:=2) rfl,?_⟩;intro w1' h3;have h1:=(h0.to h9).to h3.block;refine(G3 HN h.uok h1.rl h1.tv.strs h.tups).mono ?_;rintro e w' ⟨tb,f,who,L,S,he,hB⟩;have h7:=ha.trans (h3.mono ha.size);exact⟨tb,f,who,L,S,_,w1',he,h7.size,h7.trans (hB.b.mono h7.size),hB⟩
 have h5: ∃o n c,g.tv=.slice o n c:=by
  rcases h.tv with⟨e,-⟩|⟨b,cap,cur,e,-⟩
  ·exact⟨_,_,_,e⟩
  ·exact⟨_,_,_,e⟩
 obtain⟨o,n,c,h5⟩:=h5;rw[h5]at HS;generalize g.mb=mb at *;clear h h5 HN;go_enter func42,ntmps42;go_wp2
 go_region_with(first|(go_at_call 50;refine(HS.out _ bl).mono ?_;rintro e w1 ⟨rfl,k2,HO⟩)|(go_at_call 84;refine(HO.out _ bl).mono ?_;rintro e w2 ⟨tb,f,who,L,S,lo,w3,rfl,hp⟩;have HP:Hid (w.heap.size<=lo/\Below w.heap.size w w2/\Bld U (qt now) xs lo tb f who L S w3 w2):=hp;clear hp))
 all_goals go_wp2
 all_goals go_ret
 all_goals exact⟨tb,f,who,L,S,lo,w3,rfl,HP.out⟩
def InN(ts:List (Nod×Nod))(xs:List BA)(u x:Nod):Prop:=u.isTh=true/\(∃t∈ts,t.2=u)/\Std ts (qi xs) u x
structure AskW(U xs now:List BA)(x:Nod)(w:World)(wb:Nat)(w2:World):Prop where
 has: ∀w2',Below w2.heap.size w2 w2'-> ∀y:Nod,y.k.size+1+y.n.size<=maxLen->Calls prog 48 #[.pointer (some ⟨wb,0,none⟩),.agg #[.string y.k,.string y.n,.string y.r]] w2' λe w'=> ∃b,e=.returned (.bool b)/\(b=true↔ ∃u,InN (qt now) xs u x/\thT u=thT y)/\Below w.heap.size w w'
 who: ∀w2',Below w2.heap.size w2 w2'->Calls prog 83 #[.pointer (some ⟨wb,0,none⟩)] w2' λe w'=> ∃zs o c,e=.returned (.slice o zs.length c)/\zy zs/\(∀s,s∈zs↔ ∃u,InN (qt now) xs u x/\thT u=s)/\zs.length<=50/\w'.ownsRow w.heap.size 9 1 (.slice o zs.length c) zs.length (qg zs)/\Below w.heap.size w w'
 cost: ∀w2',Below w2.heap.size w2 w2'->Calls prog 44 #[.pointer (some ⟨wb,0,none⟩)] w2' λe w'=> ∃met:List Nod,e=.returned (.int .i64 (met.length:Nat))/\met.Nodup/\(∀y,y∈met↔Rch (qt now) (qi xs) x y)/\met.length<=32000000/\Below w.heap.size w w'
variable{w1 w2:World}
theorem ol{X:Nat->Prop}{B:Nat}(hb:Below B w w1)(hf:Frm X w1 w2)(hB:B<=w1.heap.size)(hX: ∀k,X k->B<=k):Below B w w2:=
 hb.trans ⟨hf.os,hf.tape,hf.output,hf.size,λk hk=>hf.block k (Ug hk hB) (λe=>by have:=hX k e;omega)⟩
variable{L:TL}{S:TS}{f:Nod->Option Value}{lo mb nb sb tb wb:Nat}{met:List Nod}{sv:Value}{who:Nod->Nat}
theorem WA.low{ts:List (Nod×Nod)}{gone:Nat}(h:WA U ts xs lo tb sb f who wb nb mb L S sv met gone w)(hw:lo<=wb){k:Nat}(hk:am wb nb mb L sv k):lo<=k:=by
 rcases hk with(e|e|e)|e
 ·exact(h.ta.t.rl.lt e).2
 ·exact(h.m.num.lt e).2
 ·rw[e];exact hw
 ·rw[e];exact h.ta.t.low
variable{x:Nod}
theorem KQ(HW:Hid xh)(h:GateQ U xs now b g w){w1':World}(hB:Bld U (qt now) xs lo tb f who L S w1 w1')(ha:w.heap.size<=lo){w1'':World}(hb:Below w.heap.size w w1''){L':TL}{S':TS}(hN:WNew U (qt now) xs lo tb f who L S w1'' x wb nb mb sb L' S' sv w2):
  AskW U xs now x w wb w2/\Below w.heap.size w w2:=by
 have h8:Below w.heap.size w w2:=hb.trans (hN.bel.mono ha);have hu:S'.uss=S.uss:=hN.uss;have hl:S'.uss.length<=50:=by rw[hu];exact Ue hB.ul hB.ta.tn
 have h0: ∀u,u∈S'.uss↔u.isTh=true/\ ∃t∈qt now,t.2=u:=by rw[hu];exact hB.us
 have hp: ∀y:Nod,y.isTh=true-> ∀i,i<64->((who y).testBit i=true↔S'.uss[i]?=some y):=by rw[hu];exact hB.th
 have ho: ∀u∈S'.uss,u.k.size+1+u.n.size<=maxLen:=by
  intro u hu;obtain⟨h1,t,ht,e⟩:=(h0 u).1 hu;subst e;exact h.sz t ht h1
 have h9: ∀(i j:Nat) (u v:Nod),S'.uss[i]?=some u->S'.uss[j]?=some v->thT u=thT v->i=j:=by
  intro i j u v hi hj e;obtain⟨h1,t,ht,e1⟩:=(h0 u).1 (OZ hi);obtain⟨h2,t',hr,e2⟩:=(h0 v).1 (OZ hj);subst e1 e2;have:=h.inj t ht t' hr h1 h2 e;have nd:S'.uss.Nodup:=hN.wa.ta.t.us.nd;rw[this]at hi;exact(List.getElem?_inj (OE.1 hi).1 nd).1 (hi.trans hj.symm)
 have hg:Gone (qt now) xs x [x] 0:=⟨rfl,λy hy=>by rw[O3]at hy;rw[hy];exact Rch.here,λi y hi=>by omega⟩
 have hn: ∀s,(∃u∈S'.uss,Std (qt now) (qi xs) u x/\thT u=s)↔ ∃u,InN (qt now) xs u x/\thT u=s:=by
  intro s
  constructor
  ·rintro⟨u,h1,h2,h3⟩
   exact⟨u,⟨((h0 u).1 h1).1,((h0 u).1 h1).2,h2⟩,h3⟩
  ·rintro⟨u,⟨h1,h2,h4⟩,h3⟩
   exact⟨u,(h0 u).2 ⟨h1,h2⟩,h4,h3⟩
 have h6:w.heap.size<=w2.heap.size:=h8.size;have hc:=h.cov;refine⟨⟨λw2' h5 y hy=>?_,λw2' h5=>?_,λw2' h5=>?_⟩,h8⟩
 ·have hA:=hN.wa.below h5
  refine(ed HW h.cov hA hg hB.sm hp hB.no hl ho h9 y hy).mono ?_;rintro e w' ⟨b,he,hd,hf⟩;exact⟨b,he,hd.trans (hn _),ol (h8.trans (h5.mono h6)) hf (Ue h6 h5.size) λk hk=>Ue ha (hA.low hN.low hk)⟩
 ·have hA:=hN.wa.below h5
  refine(rX HW h.cov hA hg hB.sm hp hB.no hl ho h9).mono ?_;rintro e w' ⟨zs,v,he,hz,hm,hv,h7,hf⟩;obtain⟨o,c,rfl⟩:=qz h7;exact⟨zs,o,c,he,hz,λs=>(hm s).trans (hn s),hv,xM h7 (Ue h6 h5.size),ol (h8.trans (h5.mono h6)) hf (Ue h6 h5.size) λk hk=>Ue ha (hA.low hN.low hk)⟩
 ·have hA:=hN.wa.below h5
  refine(fX (λh x hx=>dT HW hc h hx) hA hg).mono ?_;rintro e w' ⟨L2,S2,sv2,met,he,hs,hq⟩;exact⟨met,he,hs.at'.m.num.nd,hq.all,vM hs.at'.ta.t.ok hs.at'.m.num.nd hs.at'.m.kn,ol (h8.trans (h5.mono h6)) hs.fr (Ue h6 h5.size) λk hk=>Ue ha (hA.low hN.low (Or.inl hk))⟩
theorem XB(HN:Hid xS)(HW:Hid xh)(h:GateQ U xs now b g w)(hx:uq x)(h5:x.isTh=false)(hr:x.r∈U):
  Calls prog 42 #[.pointer (some ⟨b,0,none⟩)] w λe w1=> ∃tb,e=.returned (.pointer (some ⟨tb,0,none⟩))/\Below w.heap.size w w1/\Hid (∀w1',Below w1.heap.size w1 w1'->Calls prog 43 #[.pointer (some ⟨tb,0,none⟩),.agg #[.string x.k,.string x.n,.string x.r]] w1' λe w2=> ∃wb,e=.returned (.pointer (some ⟨wb,0,none⟩))/\Below w.heap.size w w2/\Hid (AskW U xs now x w wb w2)):=by
 refine(KP HN h).mono ?_;rintro e w1 ⟨tb,f,who,L,S,lo,w0,he,h4,hb,hB⟩;refine⟨tb,he,hb,?_⟩;intro w1' h0;have hT:TA U (qt now) xs lo tb w1'.heap.size f who L S w1':=(hB.ta.below h0).wide (hB.ta.below h0).sb (Uc _);refine(eX HN hT hx h5 hr (by have:=hB.tl;have:=hB.ta.tn;omega)).mono ?_
 rintro e w2 ⟨wb,nb,mb,sb,L',S',sv,h3,hN⟩;obtain⟨h1,h2⟩:=KQ HW h hB h4 (hb.trans (h0.mono hb.size)) hN;exact⟨wb,h3,h2,h1⟩
def x8(xs:List BA)(x:Nod):Bool:=(xs.find? (λs=>decide (qU (rd0 s)=x.k/\zh (rd0 s)=x.r))).isSome
theorem m7(h:zp w mb xs)(x:Nod): ∃m,zt w yX mb m/\kW m/\(getM m (zl x.k x.r)).isSome=x8 xs x:=by
 obtain⟨m,lor,h1,h2⟩:=h;refine⟨m,h1,h2.ways,?_⟩;obtain⟨es,cl,q1,q2,q3,q4⟩:=h1;unfold x8;cases hf:xs.find? (λs=>decide (qU (rd0 s)=x.k/\zh (rd0 s)=x.r))with
 |none=>
  have hn:getM m (zl x.k x.r)=none:=by
   refine vY λp hp e=>?_;obtain⟨i,hi⟩:=OX.1 hp;have h0:=(OE.1 hi).1;rw[h2.len]at h0;have hk:=h2.key i _ _ (OC h0) hi;rw[hk]at e;obtain⟨e1,e2⟩:=de e;have:=List.find?_eq_none.1 hf xs[i] (List.getElem_mem h0);simp[e1,e2]at this
  rw[hn];rfl
 |some s=>
  obtain⟨i,hi,hp⟩:=fQ hf;have h0:=(OE.1 hi).1;rw[←h2.len]at h0;have h3:m[i]?=some m[i]:=OC h0;have hk:=h2.key i s _ hi h3;simp at hp;rw[hp.1,hp.2]at hk;have hg:getM m (zl x.k x.r)=some m[i].2:=ia q4 (by rw[←hk];exact List.getElem_mem h0)
  rw[hg];rfl
def ya(x y:Nod):List Value:=[.string x.k,.string x.n,.string x.r,.string y.k,.string y.n,.string y.r]
variable{y:Nod}
theorem Zb(HN:Hid xS)(HW:Hid xh)(h:GateQ U xs now b g w)(hx:uq x)(h3:x.isTh=false)(hr:x.r∈U){qb:Nat}(hq:w.heap[qb]?=some (.cells (ya x y).toArray 77 (0,0))):
  Calls prog 42 #[.pointer (some ⟨b,0,none⟩)] w λe w1=> ∃tb,e=.returned (.pointer (some ⟨tb,0,none⟩))/\w1.heap[qb]?=some (.cells (ya x y).toArray 77 (0,0))/\Hid (∀w1',Below w1.heap.size w1 w1'->Calls prog 43 #[.pointer (some ⟨tb,0,none⟩),.agg #[.string x.k,.string x.n,.string x.r]] w1' λe w2=> ∃wb,e=.returned (.pointer (some ⟨wb,0,none⟩))/\w2.heap[qb]?=some (.cells (ya x y).toArray 77 (0,0))/\Hid (AskW U xs now x w wb w2)):=by
 refine(XB HN HW h hx h3 hr).mono ?_;rintro e w1 ⟨tb,he,hb,HC⟩;refine⟨tb,he,(hb.block _ (qc hq)).trans hq,?_⟩;intro w1' h0;refine(HC.out w1' h0).mono ?_;rintro e w2 ⟨wb,h1,h2,hA⟩;exact⟨wb,h1,(h2.block _ (qc hq)).trans hq,hA⟩
def Zc(b1 b2 b3:BA):Bool:= !((b1.toList==[]) && (b2.toList==[]) && (b3.toList==[]))
def qj(s:BA):Nod:=iT (qM s)
def qK(s:BA):Nod:=iT (yd s)
def vd(s:BA):Bool:=Zc (qK s).k (qK s).n (qK s).r
variable{s:BA}
theorem cP(h:zP s=false):cN s=.agg #[.string qk,.string qk,.string qk,.string qk,.string qk,.string qk]:=if_neg (λe=>by cases h.symm.trans e)
theorem kH(h:zP s=true):cN s=.agg #[.string (qj s).k,.string (qj s).n,.string (qj s).r,.string (qK s).k,.string (qK s).n,.string (qK s).r]:=by
 unfold cN qj qK iT;dsimp only;exact if_pos h
structure QueOk(U:List BA)(s:BA):Prop where
 ok:uq (qj s)
 th:(qj s).isTh=false
 rU:(qj s).r∈U
 sz:(qK s).k.size+1+(qK s).n.size<=maxLen
theorem mF(h:GateQ U xs now b g w)(hx:uq x):Calls prog 47 #[.pointer (some ⟨b,0,none⟩),.agg #[.string x.k,.string x.n,.string x.r]] w λe w'=>e=.returned (.bool (x8 xs x))/\Below w.heap.size w w':=by
 obtain⟨m,h1,h2,h3⟩:=m7 h.rl x;have:=dE b g m h2 x.k x.n x.r hx.1 hx.2.2 w h.pg h1;rw[h3]at this;exact this
def vH(xs now:List BA)(s:BA)(w:World)(e:Ending)(w':World):Prop:=
 ∃o n c,∃er:Int,e=.returned (.tuple #[.slice o n c,.int .i64 er])/\Below w.heap.size w w'/\er=(if zP s=false\/vd s=true then 4 else if x8 xs (qj s)=false then 5 else 0)/\ ∃zs:List BA,n=zs.length/\zy zs/\zs.length<=50/\w'.ownsRow w.heap.size 9 1 (.slice o n c) zs.length (qg zs)/\if er=0 then(∀z,z∈zs↔ ∃u,InN (qt now) xs u (qj s)/\thT u=z)else o=none/\n=0/\c=0
theorem Zd(HN:Hid xS)(HW:Hid xh)(h:GateQ U xs now b g w)(s:BA)(hs:s.size<=maxLen)(hQ:zP s=true->x8 xs (qj s)=true->QueOk U s)(hO:uq (qj s)):
  Calls prog 40 #[.pointer (some ⟨b,0,none⟩),.string s] w (vH xs now s w):=by
 have h4:=vC s w hs;have h3:Hid (∀er:Int,er≠0->er=(if zP s=false\/vd s=true then 4 else if x8 xs (qj s)=false then 5 else 0)-> ∀w',Below w.heap.size w w'->vH xs now s w (.returned (.tuple #[.slice none 0 0,.int .i64 er])) w'):=by
  intro er hx he w' hb;exact⟨none,0,0,er,rfl,hb,he,[],rfl,List.Pairwise.nil,by simp,World.ownsRow_nil _ _ _ _,by rw[if_neg hx];exact⟨rfl,rfl,rfl⟩⟩
 cases hok:zP s
 ·rw[hok,cP hok]at h4
  have H4:Hid (∀w',Below w.heap.size w w'->vH xs now s w (.returned (.tuple #[.slice none 0 0,.int .i64 4])) w'):=h3.out 4 (by decide) (by rw[hok];rfl)
  generalize vH xs now s w=P at *;clear h hs hQ hO hok h3 HN HW;go_enter func40,ntmps40
  go_wp2_with(go_at_call 45;refine h4.mono ?_;rintro e w1 ⟨rfl,h0⟩)
  exact H4.out _ (h0.alloc h0.size _)
 ·rw[hok,kH hok]at h4
  have h5:Hid (∀w1,Calls prog 46 #[.agg #[.string (qj s).k,.string (qj s).n,.string (qj s).r,.string (qK s).k,.string (qK s).n,.string (qK s).r]] w1 λe w'=>e=.returned (.bool (vd s))/\Below w1.heap.size w1 w'):=λw1=>dV _ _ _ _ _ _ w1;cases hc:vd s
  ·rw[hc]at h5
   have h6:Hid (∀w1,Below w.heap.size w w1->Calls prog 47 #[.pointer (some ⟨b,0,none⟩),.agg #[.string (qj s).k,.string (qj s).n,.string (qj s).r]] w1 λe w'=>e=.returned (.bool (x8 xs (qj s)))/\Below w1.heap.size w1 w'):=λw1 hb=>mF (h.to hb.block) hO;cases hr:x8 xs (qj s)
   ·rw[hr]at h6
    have H5:Hid (∀w',Below w.heap.size w w'->vH xs now s w (.returned (.tuple #[.slice none 0 0,.int .i64 5])) w'):=h3.out 5 (by decide) (by rw[hok,hc,hr];rfl)
    generalize vH xs now s w=P at *;generalize qj s=x at *;generalize qK s=y at *;clear h hs hQ hO hok h3 HN HW hc hr;go_enter func40,ntmps40
    go_wp2_with(first|(go_at_call 45;refine h4.mono ?_;rintro e w1 ⟨rfl,h0⟩)|(go_at_call 46;refine(h5.out _).mono ?_;rintro e w2 ⟨rfl,h1⟩;have h2:Below w.heap.size w w2:=(h0.alloc h0.size _).trans (h1.mono (by have:=h0.size;simp;omega));have k0:=h1.cell (p:=⟨w1.heap.size,0,none⟩) (by simp);have k1:=h1.cell (p:=⟨w1.heap.size,1,none⟩) (by simp);have k2:=h1.cell (p:=⟨w1.heap.size,2,none⟩) (by simp))|(go_at_call 47;refine(h6.out _ h2).mono ?_;rintro e w3 ⟨rfl,h7⟩))
    exact H5.out _ (h2.trans (h7.mono h2.size))
   ·rw[hr]at h6
    have q:=hQ hok hr;have hg:Hid (∀(wq:World) (qb:Nat),Below w.heap.size w wq->wq.heap[qb]?=some (.cells (ya (qj s) (qK s)).toArray 77 (0,0))->Calls prog 42 #[.pointer (some ⟨b,0,none⟩)] wq λe w1=> ∃tb,e=.returned (.pointer (some ⟨tb,0,none⟩))/\w1.heap[qb]?=some (.cells (ya (qj s) (qK s)).toArray 77 (0,0))/\Hid (∀w1',Below w1.heap.size w1 w1'->Calls prog 43 #[.pointer (some ⟨tb,0,none⟩),.agg #[.string (qj s).k,.string (qj s).n,.string (qj s).r]] w1' λe w2=> ∃wb,e=.returned (.pointer (some ⟨wb,0,none⟩))/\Hid (∀w2',Below w2.heap.size w2 w2'->Calls prog 83 #[.pointer (some ⟨wb,0,none⟩)] w2' λe w'=> ∃o n c,e=.returned (.slice o n c)/\vH xs now s w (.returned (.tuple #[.slice o n c,.int .i64 0])) w'))):=by
     intro wq qb hb hq;refine(Zb HN HW (h.to hb.block) q.ok q.th q.rU hq).mono ?_;rintro e w1 ⟨tb,he,hl,HC⟩;refine⟨tb,he,hl,?_⟩;intro w1' h0;refine(HC.out w1' h0).mono ?_;rintro e w2 ⟨wb,hj,ha,hA⟩;refine⟨wb,hj,?_⟩;intro w2' h1;refine(hA.out.who w2' h1).mono ?_;rintro e w' ⟨zs,o,c,hi,ho,hm,hn,hd,hk⟩;exact⟨o,_,c,hi,o,_,c,0,rfl,hb.trans (hk.mono hb.size),by rw[hok,hc,hr];rfl,zs,rfl,ho,hn,xM hd hb.size,by rw[if_pos rfl];exact hm⟩
    generalize vH xs now s w=P at *;clear q hQ hO;generalize qj s=x at *;generalize qK s=y at *;clear h hs hok h3 HN HW hc hr;go_enter func40,ntmps40
    go_wp2_with(first|(go_at_call 45;refine h4.mono ?_;rintro e w1 ⟨rfl,h0⟩)|(go_at_call 46;refine(h5.out _).mono ?_;rintro e w2 ⟨rfl,h1⟩;have h2:Below w.heap.size w w2:=(h0.alloc h0.size _).trans (h1.mono (by have:=h0.size;simp;omega));have k0:=h1.cell (p:=⟨w1.heap.size,0,none⟩) (by simp);have k1:=h1.cell (p:=⟨w1.heap.size,1,none⟩) (by simp);have k2:=h1.cell (p:=⟨w1.heap.size,2,none⟩) (by simp);have ha:w2.heap[w1.heap.size]?=some (.cells (ya x y).toArray 77 (0,0)):=(h1.block _ (by simp)).trans (qn w1 (ya x y) _))|(go_at_call 47;refine(h6.out _ h2).mono ?_;rintro e w3 ⟨rfl,h7⟩))
    have hf:Below w.heap.size w w3:=h2.trans (h7.mono h2.size);have h8:w3.heap[w1.heap.size]?=some (.cells (ya x y).toArray 77 (0,0)):=(h7.block _ (qc ha)).trans ha;have hv:Hid _:=hg.out w3.drew w1.heap.size hf.drew h8;have l0:w3.drew.cell? ⟨w1.heap.size,0,none⟩=some (.string x.k):=qa h8 (j:=0) rfl;have l1:w3.drew.cell? ⟨w1.heap.size,1,none⟩=some (.string x.n):=qa h8 (j:=1) rfl;have l2:w3.drew.cell? ⟨w1.heap.size,2,none⟩=some (.string x.r):=qa h8 (j:=2) rfl;clear hg h8 ha hf h2 h7 h1 h0 h5 h6 k0 k1 k2
    go_region_with(first|(go_at_call 42;refine(Calls.mono hv.out) ?_;rintro e w4 ⟨tb,rfl,h9,ht⟩;have m0:=qa h9 (j:=0) rfl;have m1:=qa h9 (j:=1) rfl;have m2:=qa h9 (j:=2) rfl;clear h9)|(go_at_call 43;refine(ht.out _ bl).mono ?_;rintro e w5 ⟨wb,rfl,hu⟩)|(go_at_call 83;refine(hu.out _ bl).mono ?_;rintro e w6 ⟨o,n,c,rfl,hp⟩))
    all_goals go_wp2
    all_goals exact bodyPost_ret (v:=.tuple #[.slice o n c,.int .i64 0]) (by simp[results,results40,go_sem]) rfl hp
  ·rw[hc]at h5
   have H4:Hid (∀w',Below w.heap.size w w'->vH xs now s w (.returned (.tuple #[.slice none 0 0,.int .i64 4])) w'):=h3.out 4 (by decide) (by rw[hc];simp)
   generalize vH xs now s w=P at *;generalize qj s=x at *;generalize qK s=y at *;clear h hs hQ hO hok h3 HN HW hc;go_enter func40,ntmps40
   go_wp2_with(first|(go_at_call 45;refine h4.mono ?_;rintro e w1 ⟨rfl,h0⟩)|(go_at_call 46;refine(h5.out _).mono ?_;rintro e w2 ⟨rfl,h1⟩;have h2:Below w.heap.size w w2:=(h0.alloc h0.size _).trans (h1.mono (by have:=h0.size;simp;omega))))
   exact H4.out _ h2
def zS(xs:List BA)(s:BA):Int:=if zP s=false then 4 else if x8 xs (qj s)=false then 5 else 0
def jK:Value:=.agg #[.string qk,.string qk,.string qk,.string qk,.string qk,.string qk]
def vk(xs:List BA)(s:BA):Value:=if zS xs s=0 then .agg #[.string (qj s).k,.string (qj s).n,.string (qj s).r,.string (qK s).k,.string (qK s).n,.string (qK s).r]else jK
theorem n8(h:GateQ U xs now b g w)(s:BA)(hs:s.size<=maxLen)(hO:uq (qj s)):
  Calls prog 41 #[.pointer (some ⟨b,0,none⟩),.string s] w λe w'=>e=.returned (.tuple #[vk xs s,.int .i64 (zS xs s)])/\Below w.heap.size w w':=by
 have h4:=λw1=>vC s w1 hs;cases hok:zP s
 ·rw[hok,cP hok]at h4
  have HV:Hid (vk xs s=jK/\zS xs s=4):=by
   have e:zS xs s=4:=if_pos hok;refine⟨?_,e⟩;unfold vk;rw[e];exact if_neg (by decide)
  obtain⟨v1,v2⟩:=HV.out;rw[v1,v2];unfold jK;clear h hs hO hok HV v1 v2;go_enter func41,ntmps41
  go_wp2_with(go_at_call 45;refine(h4 _).mono ?_;rintro e w1 ⟨rfl,h0⟩;have h8:w.heap.size<w1.heap.size:=(by have:=h0.size;simp at this;omega);have h5:=λo=>h0.cell (p:=⟨w.heap.size,o,none⟩) (by simp);have h9:=λo=>h0.frozen (p:=⟨w.heap.size,o,none⟩) (by simp);have hc: ¬w.heap.size=w1.heap.size:=(by omega);have ha: ¬w1.heap.size=w.heap.size:=(by omega))
  have h2:Below w.heap.size w w1:=((Ou w.heap.size w).alloc (Uc _) _).trans (h0.mono (by simp))
  refine bodyPost_ret (v:=.tuple #[.agg #[.string qk,.string qk,.string qk,.string qk,.string qk,.string qk],.int .i64 4]) (by simp[results,results41,go_sem,h5,h8,qk]) rfl ⟨rfl,?_⟩
  refine Below.alloc ?_ (by simp;omega) _
  refine Below.setCell ?_ (by simp) _
  refine Below.setCell ?_ (by simp) _
  refine Below.setCell ?_ (by simp) _
  refine Below.setCell ?_ (by simp) _
  refine Below.setCell ?_ (by simp) _
  refine Below.setCell ?_ (by simp) _
  exact h2
 ·rw[hok,kH hok]at h4
  have h6:Hid (∀w1,Below w.heap.size w w1->Calls prog 47 #[.pointer (some ⟨b,0,none⟩),.agg #[.string (qj s).k,.string (qj s).n,.string (qj s).r]] w1 λe w'=>e=.returned (.bool (x8 xs (qj s)))/\Below w1.heap.size w1 w'):=λw1 hb=>mF (h.to hb.block) hO;cases hr:x8 xs (qj s)
  ·rw[hr]at h6
   have HV:Hid (vk xs s=jK/\zS xs s=5):=by
    have e:zS xs s=5:=by unfold zS;rw[hok,hr];rfl
    refine⟨?_,e⟩;unfold vk;rw[e];exact if_neg (by decide)
   obtain⟨v1,v2⟩:=HV.out;rw[v1,v2];unfold jK;generalize qj s=x at *;generalize qK s=y at *;clear h hs hO hok HV v1 v2 hr;go_enter func41,ntmps41
   go_wp2_with(first|(go_at_call 45;refine(h4 _).mono ?_;rintro e w1 ⟨rfl,h0⟩;have h8:w.heap.size<w1.heap.size:=(by have:=h0.size;simp at this;omega);have hc: ¬w.heap.size=w1.heap.size:=(by omega);have ha: ¬w1.heap.size=w.heap.size:=(by omega);have h2:Below w.heap.size w w1:=((Ou w.heap.size w).alloc (Uc _) _).trans (h0.mono (by simp)))|(go_at_call 47;refine(h6.out _ (h2.alloc h2.size _)).mono ?_;rintro e w2 ⟨rfl,h3⟩;have hd:w.heap.size<w2.heap.size:=(by have:=h3.size;simp at this;omega);have h1:Below (w.heap.size+1) _ w2:=((h0.mono (by simp)).trans ((((Ou (w.heap.size+1) w1).alloc (by omega) _).trans (h3.mono (by simp;omega)))));have h5:=λo=>h1.cell (p:=⟨w.heap.size,o,none⟩) (by simp);have h9:=λo=>h1.frozen (p:=⟨w.heap.size,o,none⟩) (by simp)))
   have h7:Below w.heap.size w w2:=(h2.alloc h2.size _).trans (h3.mono (by simp;omega))
   refine bodyPost_ret (v:=.tuple #[.agg #[.string qk,.string qk,.string qk,.string qk,.string qk,.string qk],.int .i64 5]) (by simp[results,results41,go_sem,h5,qk]) rfl ⟨rfl,?_⟩
   refine Below.setCell ?_ (by simp) _
   refine Below.setCell ?_ (by simp) _
   refine Below.setCell ?_ (by simp) _
   refine Below.setCell ?_ (by simp) _
   refine Below.setCell ?_ (by simp) _
   refine Below.setCell ?_ (by simp) _
   exact h7
  ·rw[hr]at h6
   have HV:Hid (vk xs s=.agg #[.string (qj s).k,.string (qj s).n,.string (qj s).r,.string (qK s).k,.string (qK s).n,.string (qK s).r]/\zS xs s=0):=by
    have e:zS xs s=0:=by unfold zS;rw[hok,hr];rfl
    refine⟨?_,e⟩;unfold vk;rw[e];exact if_pos rfl
   obtain⟨v1,v2⟩:=HV.out;rw[v1,v2];clear HV v1 v2 hO;generalize qj s=x at *;generalize qK s=y at *;clear h hs hok hr;go_enter func41,ntmps41
   go_wp2_with(first|(go_at_call 45;refine(h4 _).mono ?_;rintro e w1 ⟨rfl,h0⟩;have h8:w.heap.size<w1.heap.size:=(by have:=h0.size;simp at this;omega);have hc: ¬w.heap.size=w1.heap.size:=(by omega);have ha: ¬w1.heap.size=w.heap.size:=(by omega);have h2:Below w.heap.size w w1:=((Ou w.heap.size w).alloc (Uc _) _).trans (h0.mono (by simp)))|(go_at_call 47;refine(h6.out _ (h2.alloc h2.size _)).mono ?_;rintro e w2 ⟨rfl,h3⟩;have hd:w.heap.size<w2.heap.size:=(by have:=h3.size;simp at this;omega);have h1:Below (w.heap.size+1) _ w2:=((h0.mono (by simp)).trans ((((Ou (w.heap.size+1) w1).alloc (by omega) _).trans (h3.mono (by simp;omega)))));have h5:=λo=>h1.cell (p:=⟨w.heap.size,o,none⟩) (by simp);have h9:=λo=>h1.frozen (p:=⟨w.heap.size,o,none⟩) (by simp);have he:=λo=>h3.cell (p:=⟨w1.heap.size,o,none⟩) (by simp)))
   have h7:Below w.heap.size w w2:=(h2.alloc h2.size _).trans (h3.mono (by simp;omega))
   refine bodyPost_ret (v:=.tuple #[.agg #[.string x.k,.string x.n,.string x.r,.string y.k,.string y.n,.string y.r],.int .i64 0]) (by simp[results,results41,go_sem,h5]) rfl ⟨rfl,?_⟩
   refine Below.setCell ?_ (by simp) _
   refine Below.setCell ?_ (by simp) _
   refine Below.setCell ?_ (by simp) _
   refine Below.setCell ?_ (by simp) _
   refine Below.setCell ?_ (by simp) _
   refine Below.setCell ?_ (by simp) _
   exact h7
def uH(xs now:List BA)(s:BA)(w:World)(e:Ending)(w':World):Prop:=
 ∃k:Nat,e=.returned (.tuple #[.int .i64 k,.int .i64 (zS xs s)])/\Below w.heap.size w w'/\if zS xs s=0 then∃met:List Nod,k=met.length/\met.Nodup/\(∀y,y∈met↔Rch (qt now) (qi xs) (qj s) y)/\met.length<=32000000 else k=0
theorem Ja(HN:Hid xS)(HW:Hid xh)(h:GateQ U xs now b g w)(s:BA)(hs:s.size<=maxLen)(hQ:zP s=true->x8 xs (qj s)=true->QueOk U s)(hO:uq (qj s)):
  Calls prog 20 #[.pointer (some ⟨b,0,none⟩),.string s] w (uH xs now s w):=by
 have h2:=n8 h s hs hO;by_cases he:zS xs s=0
 ·have h5:zP s=true:=by
   cases e:zP s
   ·have:zS xs s=4:=if_pos e
    rw[he]at this;cases this
   ·rfl
  have hr:x8 xs (qj s)=true:=by
   cases e:x8 xs (qj s)
   ·have:zS xs s=5:=by unfold zS;rw[h5,e];rfl
    rw[he]at this;cases this
   ·rfl
  have hv:vk xs s=.agg #[.string (qj s).k,.string (qj s).n,.string (qj s).r,.string (qK s).k,.string (qK s).n,.string (qK s).r]:=if_pos he;rw[hv,he]at h2;have q:=hQ h5 hr;have h6:Hid (∀(wq:World) (qb:Nat),Below w.heap.size w wq->wq.heap[qb]?=some (.cells (ya (qj s) (qK s)).toArray 77 (0,0))->Calls prog 42 #[.pointer (some ⟨b,0,none⟩)] wq λe w1=> ∃tb,e=.returned (.pointer (some ⟨tb,0,none⟩))/\w1.heap[qb]?=some (.cells (ya (qj s) (qK s)).toArray 77 (0,0))/\Hid (∀w1',Below w1.heap.size w1 w1'->Calls prog 43 #[.pointer (some ⟨tb,0,none⟩),.agg #[.string (qj s).k,.string (qj s).n,.string (qj s).r]] w1' λe w2=> ∃wb,e=.returned (.pointer (some ⟨wb,0,none⟩))/\Hid (∀w2',Below w2.heap.size w2 w2'->Calls prog 44 #[.pointer (some ⟨wb,0,none⟩)] w2' λe w'=> ∃k:Nat,e=.returned (.int .i64 k)/\uH xs now s w (.returned (.tuple #[.int .i64 k,.int .i64 0])) w'))):=by
   intro wq qb hb hq;refine(Zb HN HW (h.to hb.block) q.ok q.th q.rU hq).mono ?_;rintro e w1 ⟨tb,ha,hg,HC⟩;refine⟨tb,ha,hg,?_⟩;intro w1' h0;refine(HC.out w1' h0).mono ?_;rintro e w2 ⟨wb,hc,ho,hA⟩;refine⟨wb,hc,?_⟩;intro w2' hd;refine(hA.out.cost w2' hd).mono ?_;rintro e w' ⟨met,h8,hk,hm,h9,hf⟩;exact⟨met.length,h8,met.length,by rw[he],hb.trans (hf.mono hb.size),by rw[if_pos he];exact⟨met,rfl,hk,hm,h9⟩⟩
  generalize uH xs now s w=P at *;clear q hQ hO hv;generalize qj s=x at *;generalize qK s=y at *;clear h hs h5 HN HW hr he;go_enter func20,ntmps20
  go_wp2_with(go_at_call 41;refine h2.mono ?_;rintro e w1 ⟨rfl,h0⟩)
  have h4:Below w.heap.size w (w1.alloc (.cells #[.string x.k,.string x.n,.string x.r,.string y.k,.string y.n,.string y.r] 77)):=h0.alloc h0.size _;have h1:(w1.alloc (.cells #[.string x.k,.string x.n,.string x.r,.string y.k,.string y.n,.string y.r] 77)).heap[w1.heap.size]?=some (.cells (ya x y).toArray 77 (0,0)):=qn w1 (ya x y) _;obtain⟨w3,h7⟩: ∃w3,w1.alloc (.cells #[.string x.k,.string x.n,.string x.r,.string y.k,.string y.n,.string y.r] 77)=w3:=⟨_,rfl⟩;rw[h7]at h4 h1 ⊢;have hl:Hid _:=h6.out w3.drew w1.heap.size h4.drew h1;have l0:w3.drew.cell? ⟨w1.heap.size,0,none⟩=some (.string x.k):=qa h1 (j:=0) rfl;have l1:w3.drew.cell? ⟨w1.heap.size,1,none⟩=some (.string x.n):=qa h1 (j:=1) rfl;have l2:w3.drew.cell? ⟨w1.heap.size,2,none⟩=some (.string x.r):=qa h1 (j:=2) rfl;clear h6 h1 h4 h0 h2 h7
  go_region_with(first|(go_at_call 42;refine(Calls.mono hl.out) ?_;rintro e w4 ⟨tb,rfl,h3,hi⟩;have m0:=qa h3 (j:=0) rfl;have m1:=qa h3 (j:=1) rfl;have m2:=qa h3 (j:=2) rfl;clear h3)|(go_at_call 43;refine(hi.out _ bl).mono ?_;rintro e w5 ⟨wb,rfl,hj⟩)|(go_at_call 44;refine(hj.out _ bl).mono ?_;rintro e w6 ⟨k,rfl,hp⟩))
  all_goals go_wp2
  all_goals exact bodyPost_ret (v:=.tuple #[.int .i64 k,.int .i64 0]) (by simp[results,results20,go_sem]) rfl hp
 ·have hv:vk xs s=jK:=if_neg he
  rw[hv]at h2;unfold jK at h2;have hn:(zS xs s !=0)=true:=by simpa using he
  have HP:Hid (∀w',Below w.heap.size w w'->uH xs now s w (.returned (.tuple #[.int .i64 0,.int .i64 (zS xs s)])) w'):=λw' hb=>⟨0,rfl,hb,by rw[if_neg he]⟩
  generalize uH xs now s w=P at *;generalize zS xs s=er at *;clear h hs hQ hO HN HW hv he;go_enter func20,ntmps20
  go_wp2_with(go_at_call 41;refine h2.mono ?_;rintro e w1 ⟨rfl,h0⟩)
  exact HP.out _ (h0.alloc h0.size _)
theorem Ze(c:UInt8)(r:List UInt8):zd (c::r)<=4:=by
 rw[yv];by_cases h1:(c.toNat:Int)<128
 ·rw[if_pos h1];omega
 rw[if_neg h1];have ht: ∀n a l,n<=3->ze n a l r<=4:=by
  intro n a l hn;by_cases h:ze n a l r=0
  ·omega
  ·obtain⟨-,-,-,q⟩:=pC h
   omega
 by_cases h2:194<=(c.toNat:Int)/\(c.toNat:Int)<224
 ·rw[if_pos h2];exact ht _ _ _ (by omega)
 rw[if_neg h2];by_cases h3:224<=(c.toNat:Int)/\(c.toNat:Int)<240
 ·rw[if_pos h3];exact ht _ _ _ (by omega)
 rw[if_neg h3];by_cases h4:240<=(c.toNat:Int)/\(c.toNat:Int)<245
 ·rw[if_pos h4];exact ht _ _ _ (by omega)
 rw[if_neg h4];omega
theorem XC: ∀(r:Nat) (l:List UInt8),yw r l=true->l.length<=4 * r:=by
 intro r
 induction r with
 |zero=>intro l h;simp[yw]at h
 |succ r ih=>
  intro l h;cases l with
  |nil=>simp
  |cons c l=>
   rw[yw]at h;split at h
   ·cases h
   ·split at h
    ·cases h
    ·have h1:=ih _ h
     rw[List.length_drop]at h1;have:=Ze c l;omega
variable{l:List UInt8}
theorem qQ(h:qx l=true):l.length<=36:=XC 9 l h
theorem j7(h:qx l=true):mk l≠qk:=λe=>iX h (by
 have:=congrArg (λb:BA=>b.data.toList) e;exact this)
theorem n9(k n r:List UInt8):(thT ⟨mk k,mk n,mk r⟩).data.toList=k++58::n:=by
 unfold thT;simp[mk]
variable{k k' n n':List UInt8}
theorem d8(hk:qx k=true)(h0:qx k'=true)(h:k++58::n=k'++58::n'):k=k'/\n=n':=by
 have h1:=jf k n 58 (qZ (qJ hk) m58);have h2:=jf k' n' 58 (qZ (qJ h0) m58);rw[h,h2]at h1;have hl:k.length=k'.length:=(Option.some.inj h1).symm;have h3:=List.append_inj h hl;exact⟨h3.1,(List.cons.inj h3.2).2⟩
def ce(xs now:List BA)(s:BA):List BA:=qk::(qj s).r::((qt now).map (λt=>t.1.r)++((qt now).map (λt=>t.2.r)++xs.flatMap λy=>xH (xZ y).1))
theorem im(h:xG s=true): ∃k n r k2 n2,∃o:Option (List UInt8),qx k=true/\qx n=true/\qx r=true/\qx k2=true/\qx n2=true/\(∀x,o=some x->qx x=true)/\xq s=(⟨mk k,mk n,mk r⟩,⟨mk k2,mk n2,iH o⟩)/\s.size<=250:=by
 obtain⟨k,n,r,k2,n2,o,d⟩:=iY s h;obtain⟨-,h1,h2⟩:=pF s k n r k2 n2 o d;refine⟨k,n,r,k2,n2,o,d.hk,d.hn,d.hr,d.hk2,d.hn2,d.ho,?_,?_⟩
 ·unfold xq iT;rw[h1,h2]
 ·have e:s.size=s.data.toList.length:=by rw[Array.length_toList];rfl
  rw[e,d.text];have a1:=qQ d.hk;have a2:=qQ d.hn;have a3:=qQ d.hr;have a4:=qQ d.hk2;have a5:=qQ d.hn2;have a6:(zO o).length<=37:=by
   cases o with
   |none=>simp[zO]
   |some x=>have:=qQ (d.ho x rfl);simp[zO];omega
  simp only[OK,OL];omega
theorem ji:(1000:Nat)<=maxLen:=by decide
variable{o:Option (List UInt8)}
theorem sw(h: ∀x,o=some x->qx x=true):(iH o).size<=36:=by
 cases o with
 |none=>show(0:Nat)<=36;omega
 |some x=>show(mk x).size<=36;rw[zE];exact qQ (h x rfl)
theorem pL(hx: ∀y∈xs,y.size<=200)(x:Nod):(∀r∈xH (qi xs x),r∈xs.flatMap λy=>xH (xZ y).1)/\lvW (qi xs x)<=201:=by
 unfold qi;cases hf:xs.find? (λs=>decide (qU (rd0 s)=x.k/\zh (rd0 s)=x.r))with
 |none=>
  refine⟨λr hr=>?_,?_⟩
  ·simp[xH,zV,yp]at hr
  ·simp[lvW,zV,lvL]
 |some y=>
  have hm:=List.mem_of_find?_eq_some hf;exact⟨λr hr=>List.mem_flatMap.2 ⟨y,hm,hr⟩,QY y (hx y hm)⟩
theorem ba(xs:List BA)(hx: ∀y∈xs,y.size<=200):(xs.flatMap λy=>xH (xZ y).1).length<=xs.length * 402:=by
 induction xs with
 |nil=>simp
 |cons y l ih=>
  rw[List.flatMap_cons,OK,OL];have h1:=ih λz hz=>hx z (by simp[hz])
  have h2:=tO (xZ y).1;have h3:=QY y (hx y (by simp))
  omega
theorem bc(pg:zU w b g)(lk:g.lk=0)(rl:zp w g.mb xs)(tv:zH w g.tv now)(nl:now.length<=50)(few:xs.length<=12)(hx: ∀y∈xs,y.size<=200)(ht: ∀t∈now,xG t=true)(s:BA)(hs:(qj s).r.size<=maxLen):GateQ (ce xs now s) xs now b g w:=by
 have hb:=ji;have h0: ∀t∈qt now,∃z∈now,xq z=t:=λt h=>OY.1 h;refine⟨pg,lk,rl,tv,⟨nl,?_,?_⟩,⟨by simp[ce],?_,?_⟩,⟨?_,λx=>(pL hx x).2⟩,?_,?_⟩
 ·intro z hz
  obtain⟨k,n,r,k2,n2,o,-,-,-,-,-,-,-,h9⟩:=im (ht z hz);exact⟨ht z hz,by omega⟩
 ·intro z hz
  obtain⟨k,n,r,k2,n2,o,h1,h2,h3,h4,h5,h6,h7,-⟩:=im (ht z hz);have hm:xq z∈qt now:=OY.2 ⟨z,hz,rfl⟩;have a1:=qQ h1;have a2:=qQ h2;have a3:=qQ h3;have a4:=qQ h4;have a5:=qQ h5;have a6:=sw h6;refine⟨?_,?_,?_,?_⟩
  ·rw[h7];exact⟨by show(mk k).size<=_;rw[zE];omega,by show(mk n).size<=_;rw[zE];omega,by show(mk r).size<=_;rw[zE];omega⟩
  ·rw[h7];exact⟨by show(mk k2).size<=_;rw[zE];omega,by show(mk n2).size<=_;rw[zE];omega,by show(iH o).size<=_;omega⟩
  ·unfold ce
   exact OU _ (OU _ (List.mem_append_left _ (OY.2 ⟨_,hm,rfl⟩)))
  ·unfold ce
   exact OU _ (OU _ (List.mem_append_right _ (List.mem_append_left _ (OY.2 ⟨_,hm,rfl⟩))))
 ·unfold ce qt
  have:=ba xs hx;simp only[OL,OK,OM];omega
 ·intro r hr
  unfold ce at hr;rcases OT.1 hr with e|hr
  ·rw[e];show(0:Nat)<=_;omega
  rcases OT.1 hr with e|hr
  ·rw[e];exact hs
  rcases OS.1 hr with hr|hr
  ·obtain⟨t,h1,rfl⟩:=OY.1 hr
   obtain⟨z,hz,rfl⟩:=h0 t h1;obtain⟨k,n,r,k2,n2,o,h1,h2,h3,h4,h5,h6,h7,-⟩:=im (ht z hz);have a3:=qQ h3;rw[h7];show(mk r).size<=_;rw[zE];omega
  rcases OS.1 hr with hr|hr
  ·obtain⟨t,h1,rfl⟩:=OY.1 hr
   obtain⟨z,hz,rfl⟩:=h0 t h1;obtain⟨k,n,r,k2,n2,o,h1,h2,h3,h4,h5,h6,h7,-⟩:=im (ht z hz);have a3:=sw h6;rw[h7];show(iH o).size<=_;omega
  ·obtain⟨y,hy,hr⟩:=List.mem_flatMap.1 hr
   have:=Y1 y (hx y hy) r hr;omega
 ·intro x r hr
  unfold ce;exact OU _ (OU _ (List.mem_append_right _ (List.mem_append_right _ ((pL hx x).1 r hr))))
 ·intro t h _
  obtain⟨z,hz,rfl⟩:=h0 t h;obtain⟨k,n,r,k2,n2,o,h1,h2,h3,h4,h5,h6,h7,-⟩:=im (ht z hz);have a4:=qQ h4;have a5:=qQ h5;rw[h7];show(mk k2).size+1+(mk n2).size<=_;rw[zE,zE];omega
 ·intro t h t' h' ha h8 e
  obtain⟨z,hz,rfl⟩:=h0 t h;obtain⟨z',hd,rfl⟩:=h0 t' h';obtain⟨k,n,r,k2,n2,o,h1,h2,h3,h4,h5,h6,h7,-⟩:=im (ht z hz);obtain⟨k',n',r',k2',n2',o',hf,hg,hk,he,hj,hi,hc,-⟩:=im (ht z' hd);rw[h7]at ha e ⊢;rw[hc]at h8 e ⊢;have e1:iH o=qk:=by simpa[Nod.isTh]using ha
  have e2:iH o'=qk:=by simpa[Nod.isTh]using h8
  have e3:=congrArg (λb:BA=>b.data.toList) e;have f: ∀(a c:List UInt8) (q:BA),(thT ⟨mk a,mk c,q⟩).data.toList=a++58::c:=λa c q=>n9 a c [];simp only[f]at e3;obtain⟨g1,g2⟩:=d8 h4 he e3;show(⟨mk k2,mk n2,iH o⟩:Nod)=⟨mk k2',mk n2',iH o'⟩
  rw[g1,g2,e1,e2]
theorem XD{q:Rd}(h:q.ended=true):q.failed=false:=by
 cases e:q.failed
 ·rfl
 ·rw[QU q e]at h;cases h
theorem sx{b:List UInt8}(hb:(Rd.mk (mk b) 0 false).ended=true):b=[]:=by
 unfold Rd.ended at hb;simp only[Bool.not_false,Bool.and_true,decide_eq_true_eq]at hb;exact Oy (by simpa[mk,ByteArray.size]using hb)
theorem be(h:(rd0 s).node.failed=true):(jw s).failed=true:=by
 cases e:uS s
 ·rw[←aQ e];exact jF _ _ h
 ·rw[gV e];exact sf _ (jF _ _ h)
theorem om(s:BA)(h:zP s=true): ∃k n r,qx k=true/\qx n=true/\qx r=true/\(s.data.toList=k++58::(n++35::r)\/ ∃k2 n2,qx k2=true/\qx n2=true/\s.data.toList=k++58::(n++35::(r++64::(k2++58::n2)))):=by
 unfold zP at h;have h1:=XD h;rcases vj (rd0 s) 58 m58 with⟨k,l1,t1,hk,-,e1⟩|⟨-,e1⟩
 case inr=>
  have hx:(jw s).failed=true:=be (show(rd0 s).node.failed=true from yS _ (iG _ _ (show(rd0 s).thing.failed=true from yS _ e1)));rw[hx]at h1;cases h1
 have w1:(rd0 s).thing=(Rd.mk (mk l1) 0 false).name:=by unfold Rd.thing;rw[e1];rfl
 rcases vj (Rd.mk (mk l1) 0 false) 35 m35 with⟨n,l2,t2,hn,-,e2⟩|⟨-,e2⟩
 case inr=>
  have hx:(jw s).failed=true:=be (show(rd0 s).node.failed=true from yS _ (by rw[w1];exact e2))
  rw[hx]at h1;cases h1
 have w2:(rd0 s).node=(Rd.mk (mk l2) 0 false).name:=by unfold Rd.node;rw[w1,e2]
 have q1:s.data.toList=k++58::l1:=t1;have q2:l1=n++35::l2:=t2;rcases vB (Rd.mk (mk l2) 0 false)with e|⟨r,b,t3,hr,-,e⟩
 ·have hx:(jw s).failed=true:=be (by rw[w2,e];rfl)
  rw[hx]at h1;cases h1
 have q3:l2=r++b:=t3;have w3:(rd0 s).node=Rd.mk (mk b) 0 false:=by rw[w2,e]
 cases hh:uS s
 ·have hq:jw s=Rd.mk (mk b) 0 false:=by rw[←aQ hh,Rd.sees_no _ _ hh,w3]
  rw[hq]at h;have hb:=sx h;subst hb;exact⟨k,n,r,hk,hn,hr,Or.inl (by rw[q1,q2,q3];simp)⟩
 ·have hp:qP (mk b) {data:= #[64]}=true:=by
   have:qP (rd0 s).node.rest {data:= #[64]}=true:=hh;rw[w3]at this;exact this
  obtain⟨l3,rfl⟩:=(aP b 64).1 hp;have h0:=(pE (Rd.mk (mk (64::l3)) 0 false) 64 l3 rfl).2;have hq:jw s=(Rd.mk (mk l3) 0 false).thing:=by rw[gV hh,w3,h0]
  rw[hq]at h h1;rcases vj (Rd.mk (mk l3) 0 false) 58 m58 with⟨k2,l4,t4,h2,-,e4⟩|⟨-,e4⟩
  case inr=>
   have:(Rd.mk (mk l3) 0 false).thing.failed=true:=yS _ e4;rw[this]at h1;cases h1
  have q4:l3=k2++58::l4:=t4;have w4:(Rd.mk (mk l3) 0 false).thing=(Rd.mk (mk l4) 0 false).name:=by unfold Rd.thing;rw[e4]
  rcases vB (Rd.mk (mk l4) 0 false)with e|⟨n2,b2,t5,h3,-,e⟩
  ·rw[w4,e]at h1;cases h1
  ·rw[w4,e]at h
   have hb:=sx h;subst hb;have q5:l4=n2:=by have:l4=n2++[]:=t5;simpa using this
   exact⟨k,n,r,hk,hn,hr,Or.inr ⟨k2,n2,h2,h3,by rw[q1,q2,q3,q4,q5]⟩⟩
variable{r:List UInt8}
theorem oo(hk:qx k=true)(hn:qx n=true)(hr:qx r=true)(ht:s.data.toList=k++58::(n++35::r)):zP s=true/\vd s=false/\qj s=⟨mk k,mk n,mk r⟩/\qK s=⟨qk,qk,qk⟩:=by
 have hs:s=mk (k++58::(n++35::(r++[]))):=yB (by rw[ht,List.append_nil])
 obtain⟨a1,a2⟩:=sg k n r [] hk hn hr (Or.inl rfl);have w3:(rd0 s).node=Rd.mk (mk []) 0 false:=by unfold rd0;rw[hs,a2]
 have hh:uS s=false:=by
  unfold uS;rw[w3];exact eD (Rd.mk (mk []) 0 false) 64 (by rintro⟨r,h⟩;cases h)
 have hq:jw s=Rd.mk (mk []) 0 false:=by rw[←aQ hh,Rd.sees_no _ _ hh,w3]
 have hy:qK s=⟨qk,qk,qk⟩:=by unfold qK iT;rw[l9 hh];rfl
 refine⟨by unfold zP;rw[hq];decide,?_,?_,hy⟩
 ·unfold vd Zc
  rw[hy];have h0:(qk.toList==[])=true:=by rw[Lib.toList_data];rfl
  dsimp only;rw[h0];rfl
 ·have:qM s=⟨mk k,mk n,mk r⟩:=by unfold qM rd0;rw[hs];exact a1
  unfold qj iT;rw[this]
theorem d9{k2 n2:List UInt8}(hk:qx k=true)(hn:qx n=true)(hr:qx r=true)(h0:qx k2=true)(h3:qx n2=true)(ht:s.data.toList=k++58::(n++35::(r++64::(k2++58::n2)))):zP s=true/\vd s=true/\qj s=⟨mk k,mk n,mk r⟩/\qK s=⟨mk k2,mk n2,qk⟩:=by
 have hs:s=mk (k++58::(n++35::(r++64::(k2++58::n2)))):=yB ht;obtain⟨a1,a2⟩:=sg k n r (64::(k2++58::n2)) hk hn hr (Or.inr ⟨_,_,rfl,m64⟩);have w3:(rd0 s).node=Rd.mk (mk (64::(k2++58::n2))) 0 false:=by unfold rd0;rw[hs,a2]
 obtain⟨p1,p2⟩:=pE (Rd.mk (mk (64::(k2++58::n2))) 0 false) 64 (k2++58::n2) rfl;have hh:uS s=true:=by unfold uS;rw[w3];exact p1
 obtain⟨b1,b2⟩:=gU k2 n2 [] h0 h3 (Or.inl rfl);rw[List.append_nil]at b1 b2;have hq:jw s=Rd.mk (mk []) 0 false:=by rw[gV hh,w3,p2];exact b2
 have h2:yd s=⟨mk k2,mk n2,qk⟩:=by rw[mx hh,w3,p2];exact b1
 have hy:qK s=⟨mk k2,mk n2,qk⟩:=by unfold qK iT;rw[h2]
 refine⟨by unfold zP;rw[hq];decide,?_,?_,hy⟩
 ·unfold vd Zc
  rw[hy];have h1:((mk k2).toList==[])=false:=by
   rw[Lib.toList_data,qA];have:=iX h0;cases k2 with
   |nil=>exact absurd rfl this
   |cons a l=>rfl
  rw[h1];rfl
 ·have:qM s=⟨mk k,mk n,mk r⟩:=by unfold qM rd0;rw[hs];exact a1
  unfold qj iT;rw[this]
theorem cf(h:zP s=true)(xs now:List BA):QueOk (ce xs now s) s:=by
 have h2:=ji;obtain⟨k,n,r,hk,hn,hr,hx⟩:=om s h;have a1:=qQ hk;have a2:=qQ hn;have a3:=qQ hr;have hX:qj s=⟨mk k,mk n,mk r⟩:=by
  rcases hx with ht|⟨k2,n2,h0,h1,ht⟩
  ·exact(oo hk hn hr ht).2.2.1
  ·exact(d9 hk hn hr h0 h1 ht).2.2.1
 refine⟨?_,?_,by simp[ce],?_⟩
 ·rw[hX];exact⟨by show(mk k).size<=_;rw[zE];omega,by show(mk n).size<=_;rw[zE];omega,by show(mk r).size<=_;rw[zE];omega⟩
 ·rw[hX];exact Uo (j7 hr)
 ·rcases hx with ht|⟨k2,n2,h0,h1,ht⟩
  ·have hh:(qK s).k.size+1+(qK s).n.size<=1:=by
    have hs:qK s=⟨qk,qk,qk⟩:=(oo hk hn hr ht).2.2.2;rw[hs];show(0:Nat)+1+0<=1;omega
   omega
  ·have a4:=qQ h0
   have a5:=qQ h1;rw[(d9 hk hn hr h0 h1 ht).2.2.2];show(mk k2).size+1+(mk n2).size<=_
   rw[zE,zE];omega
def ndT(x:Nod):BA:=x.k++⟨#[58]⟩++x.n++⟨#[35]⟩++x.r
theorem bf(k n r:List UInt8):ndT ⟨mk k,mk n,mk r⟩=mk (k++58::(n++35::r)):=by
 refine vh ?_;unfold ndT;simp[mk]
theorem XE(k n:List UInt8)(q:BA):thT ⟨mk k,mk n,q⟩=mk (k++58::n):=vh (n9 k n [])
theorem Jb(h:xt s=true):zP s=true/\vd s=false/\ndT (qj s)=s/\ ∃k n r,qx k=true/\qx n=true/\qx r=true/\qj s=⟨mk k,mk n,mk r⟩:=by
 obtain⟨k,n,r,ht,hk,hn,hr⟩:=jH s h;obtain⟨h1,h2,h3,-⟩:=oo hk hn hr ht;refine⟨h1,h2,?_,k,n,r,hk,hn,hr,h3⟩;rw[h3,bf];exact(yB ht).symm
theorem XF(h:y8 s=true)(hc:zj (qS s 64)=true):zP s=true/\vd s=true/\ndT (qj s)=qX s 64/\thT (qK s)=qS s 64/\ ∃k n r,qx k=true/\qx n=true/\qx r=true/\qj s=⟨mk k,mk n,mk r⟩:=by
 rw[jv]at h;obtain⟨k,n,r,k2,n2,o,d⟩:=iY s h;obtain⟨c1,c2,-⟩:=k9 s k n r k2 n2 o d;have ho:o=none:=by
  cases o with
  |none=>rfl
  |some x=>
   exfalso
   obtain⟨k',n',ht,h0,h5⟩:=iI _ hc;rw[c2,qA]at ht;obtain⟨-,e⟩:=d8 d.hk2 h0 ht;have:=qZ (qJ h5) m35 35 (by rw[←e];simp[zO])
   exact this rfl
 subst ho;have ht:s.data.toList=k++58::(n++35::(r++64::(k2++58::n2))):=by rw[d.text];simp[zO]
 obtain⟨h1,h2,h3,h4⟩:=d9 d.hk d.hn d.hr d.hk2 d.hn2 ht;refine⟨h1,h2,?_,?_,k,n,r,d.hk,d.hn,d.hr,h3⟩
 ·rw[h3,bf,c1]
 ·rw[h4,XE,c2];simp[zO]
theorem Jc(h:xt s=false)(hc: ¬(y8 s=true/\zj (qS s 64)=true)):zP s=false:=by
 cases e:zP s
 ·rfl
 ·exfalso
  obtain⟨k,n,r,hk,hn,hr,hx⟩:=om s e;rcases hx with ht|⟨k2,n2,h0,h1,ht⟩
  ·rw[yB ht,cM k n r hk hn hr]at h;cases h
  ·have d:TupD s.data.toList k n r k2 n2 none:=⟨by rw[ht];simp[zO],hk,hn,hr,h0,h1,λx hx=>by cases hx⟩
   refine hc ⟨by rw[jv];exact(pF s k n r k2 n2 none d).1,?_⟩
   rw[(k9 s k n r k2 n2 none d).2.1];have:=dx k2 n2 h0 h1
   simpa[zO]using this
structure NmN(x:Nod)(k n:List UInt8)(o:Option (List UInt8)):Prop where
 e:x=⟨mk k,mk n,iH o⟩
 hk:qx k=true
 hn:qx n=true
 ho: ∀r,o=some r->qx r=true
def txT(x:Nod):BA:=if x.isTh=true then thT x else ndT x
theorem vE(h:NmN x k n o):x.isTh=true↔o=none:=by
 rw[h.e];cases o with
 |none=>simp[Nod.isTh,iH,qk]
 |some r=>simp[Nod.isTh,iH];exact Uo (j7 (h.ho r rfl))
theorem uF(h:NmN x k n o):txT x=mk (k++58::(n++zO o)):=by
 unfold txT;cases o with
 |none=>rw[if_pos ((vE h).2 rfl),h.e,XE];simp[zO]
 |some r=>
  rw[if_neg (λe=>by have:=(vE h).1 e;cases this),h.e]
  show ndT ⟨mk k,mk n,mk r⟩=_
  rw[bf];rfl
variable{a:List UInt8}
theorem bg{b:List UInt8}(h:mk a=mk b):a=b:=by
 have:=congrArg (λx:BA=>x.data.toList) h;exact this
theorem pd{o':Option (List UInt8)}(h:NmN x k n o)(h':NmN y k' n' o')(e:txT x=txT y):x=y:=by
 rw[uF h,uF h']at e;obtain⟨e1,e2⟩:=d8 h.hk h'.hk (bg e);have hn:jE n:=qJ h.hn;have h0:jE n':=qJ h'.hn;rw[h.e,h'.e,e1];cases o with
 |none=>
  cases o' with
  |none=>simp[zO]at e2;rw[e2]
  |some r'=>
   exfalso
   have e3:n=n'++35::r':=by simpa[zO]using e2
   exact qZ hn m35 35 (by rw[e3];simp) rfl
 |some r=>
  cases o' with
  |none=>
   exfalso
   have e3:n'=n++35::r:=by simpa[zO]using e2.symm
   exact qZ h0 m35 35 (by rw[e3];simp) rfl
  |some r'=>
   have h1:=jf n r 35 (qZ hn m35);have h2:=jf n' r' 35 (qZ h0 m35);have e3:n++35::r=n'++35::r':=e2;rw[e3,h2]at h1;have h3:=List.append_inj e3 (Option.some.inj h1).symm;rw[h3.1,(List.cons.inj h3.2).2]
theorem aC(h:xG s=true):(∃k n r,NmN (xq s).1 k n (some r))/\(∃k n o,NmN (xq s).2 k n o)/\qX s 64=txT (xq s).1/\qS s 64=txT (xq s).2:=by
 obtain⟨k,n,r,k2,n2,o,d⟩:=iY s h;obtain⟨-,h1,h2⟩:=pF s k n r k2 n2 o d;obtain⟨c1,c2,-⟩:=k9 s k n r k2 n2 o d;have a1:NmN (xq s).1 k n (some r):=⟨by unfold xq iT;rw[h1];rfl,d.hk,d.hn,λx hx=>by cases hx;exact d.hr⟩
 have a2:NmN (xq s).2 k2 n2 o:=⟨by unfold xq iT;rw[h2],d.hk2,d.hn2,d.ho⟩
 exact⟨⟨k,n,r,a1⟩,⟨k2,n2,o,a2⟩,by rw[c1,uF a1];rfl,by rw[c2,uF a2]⟩
theorem cQ(ht: ∀s∈now,xG s=true)(hx:NmN x k n (some r)):zq now (txT x)=(qy (qt now) x).map txT:=by
 unfold zq;have: ∀(l:List BA) (ys:List BA),(∀s∈l,xG s=true)->l.foldl (xv (txT x)) ys=ys++(qy (qt l) x).map txT:=by
  intro l
  induction l with
  |nil=>intro ys _;simp[qy,qt]
  |cons s l ih=>
   intro ys hl;obtain⟨⟨k1,n1,r1,a1⟩,-,c1,c2⟩:=aC (hl s (by simp))
   rw[List.foldl_cons,ih _ (λz hz=>hl z (by simp[hz]))]
   unfold xv;rw[jn,c1,c2];by_cases e:(xq s).1=x
   ·rw[e]
    simp[qy,qt,e]
   ·have e2: ¬txT (xq s).1=txT x:=λh=>e (pd a1 hx h)
    simp[qy,qt,e,e2]
 have h2:=this now [] ht
 simpa using h2
theorem sA{p:BA->Bool}{g:BA->BA}(l:List BA): ∀ys,l.foldl (λys x=>if p x=true then ys++[g x]else ys) ys=ys++(l.filter p).map g:=by
 induction l with
 |nil=>intro ys;simp
 |cons a l ih=>
  intro ys;rw[List.foldl_cons,ih];by_cases h:p a=true
  ·simp[h]
  ·simp[h]
theorem vl(ht: ∀s∈now,xG s=true)(hy:y∈qy (qt now) x): ∃k n o,NmN y k n o:=by
 obtain⟨t,h1,rfl⟩:=OY.1 hy;obtain⟨s,hs,rfl⟩:=OY.1 (OW.1 h1).1;exact(aC (ht s hs)).2.1
theorem Jd(h:NmN y k n o):xt (txT y)= !y.isTh:=by
 rw[uF h];cases o with
 |some r=>
  have e:y.isTh=false:=by
   cases e:y.isTh
   ·rfl
   ·have:=(vE h).1 e;cases this
  rw[e];exact cM k n r h.hk h.hn (h.ho r rfl)
 |none=>
  rw[(vE h).2 rfl];show xt (mk (k++58::(n++[])))=false
  rw[List.append_nil];cases e:xt (mk (k++58::n))
  ·rfl
  ·exfalso
   obtain⟨k',n',r',ht,h0,h2,h1⟩:=jH _ e;rw[qA]at ht;obtain⟨-,e2⟩:=d8 h.hk h0 ht;exact qZ (qJ h.hn) m35 35 (by rw[e2];simp) rfl
theorem ot(h:NmN y k n o):zj (txT y)=y.isTh:=by
 rw[uF h];cases o with
 |none=>
  rw[(vE h).2 rfl];show zj (mk (k++58::(n++[])))=true
  rw[List.append_nil];exact dx k n h.hk h.hn
 |some r=>
  have e:y.isTh=false:=by
   cases e:y.isTh
   ·rfl
   ·have:=(vE h).1 e;cases this
  rw[e];cases e:zj (mk (k++58::(n++zO (some r))))
  ·rfl
  ·exfalso
   obtain⟨k',n',ht,h0,h1⟩:=iI _ e;rw[qA]at ht;obtain⟨-,e2⟩:=d8 h.hk h0 ht;exact qZ (qJ h1) m35 35 (by rw[←e2];simp[zO]) rfl
variable{way:BA}
theorem XG(ht: ∀s∈now,xG s=true)(hx:NmN x k n (some r))(hw:(qe way).is=116)(f:Nat):qW now (txT x) f way=((qy (qt now) x).filter λy=> !y.isTh).map txT:=by
 have e:qW now (txT x) f way=(zq now (txT x)).foldl xy []:=by cases f<;>rw[qW,if_pos hw]
 rw[e,cQ ht hx];have h1:=sA (p:=xt) (g:=id) ((qy (qt now) x).map txT) [];have h2:((qy (qt now) x).map txT).foldl xy []=((qy (qt now) x).map txT).filter xt:=by
  have:xy=λys x=>if xt x=true then ys++[id x]else ys:=by funext ys x;rfl
  rw[this,h1];simp
 rw[h2,List.filter_map]
 congr 1
 refine List.filter_congr λy hy=>?_;obtain⟨k,n,o,h0⟩:=vl ht hy;exact Jd h0
theorem Qh(a b:List UInt8):yU (mk a) (mk b)=mk (a++35::b):=by
 refine vh ?_;unfold yU;simp[mk]
theorem ou(h:NmN x k n o)(ha:qx a=true):NmN (x.to (mk a)) k n (some a):=⟨by rw[h.e];rfl,h.hk,h.hn,λr hr=>by cases hr;exact ha⟩
theorem Oj(hk:qx k=true)(hn:qx n=true): ∀z∈k++58::n,z≠35:=by
 intro z hz;rcases OS.1 hz with h|h
 ·exact qZ (qJ hk) m35 z h
 ·rcases OT.1 h with h|h
  ·rw[h];decide
  ·exact qZ (qJ hn) m35 z h
theorem Je(hx:NmN x k n (some r)):qX (txT x) 35=mk (k++58::n):=by
 rw[uF hx];exact(jG (mk (k++58::(n++35::r))) (k++58::n) r 35 (by rw[qA];simp) (Oj hx.hk hx.hn)).1
theorem sB(hx:NmN x k n (some r))(ha:qx a=true):yU (qX (txT x) 35) (mk a)=txT (x.to (mk a)):=by
 rw[Je hx,Qh,uF (ou hx ha)];simp[zO]
theorem Zf(hy:NmN y k n none){b:List UInt8}(hb:qx b=true):yU (txT y) (mk b)=txT (y.to (mk b)):=by
 rw[uF hy,Qh,uF (ou hy hb)];simp[zO]
theorem bh(hx:NmN x k n (some r))(hw:(qe way).is=114)(ha:qx a=true)(hA:(qe way).A=mk a)(f:Nat):qW now (txT x) f way=[txT (x.to (mk a))]:=by
 have e:qW now (txT x) f way=[yU (qX (txT x) 35) (qe way).A]:=by cases f<;>rw[qW,if_neg (by omega),if_pos hw]
 rw[e,hA,sB hx ha]
theorem bj(ht: ∀s∈now,xG s=true)(hx:NmN x k n (some r))(hw:(qe way).is=97){b:List UInt8}(ha:qx a=true)(hb:qx b=true)(hA:(qe way).A=mk a)(hB:(qe way).B=mk b)(f:Nat):
  qW now (txT x) f way=(((qy (qt now) (x.to (mk a))).filter (·.isTh)).map (·.to (mk b))).map txT:=by
 have e:qW now (txT x) f way=(zq now (yU (qX (txT x) 35) (qe way).A)).foldl (xT (qe way).B) []:=by cases f<;>rw[qW,if_neg (by omega),if_neg (by omega),if_pos hw]
 rw[e,hA,hB,sB hx ha,cQ ht (ou hx ha)];have h1:=sA (p:=zj) (g:=λz=>yU z (mk b)) ((qy (qt now) (x.to (mk a))).map txT) [];have h2:((qy (qt now) (x.to (mk a))).map txT).foldl (xT (mk b)) []=(((qy (qt now) (x.to (mk a))).map txT).filter zj).map λz=>yU z (mk b):=by
  have:xT (mk b)=λys x=>if zj x=true then ys++[yU x (mk b)]else ys:=by funext ys x;rfl
  rw[this,h1];simp
 rw[h2,List.filter_map,List.map_map,List.map_map];have h3:(qy (qt now) (x.to (mk a))).filter (zj∘txT)=(qy (qt now) (x.to (mk a))).filter (·.isTh):=by
  refine List.filter_congr λy hy=>?_;obtain⟨k,n,o,h0⟩:=vl ht hy;exact ot h0
 rw[h3];refine List.map_congr_left λy hy=>?_;obtain⟨h5,h0⟩:=OW.1 hy;obtain⟨k,n,o,h4⟩:=vl ht h5;have ho:=(vE h4).1 h0;subst ho;exact Zf h4 hb
theorem Qi(d:Nat)(op:UInt8):(qe (mk yn)).is=116:=by rw[uT (.this d op) jk];decide
theorem XH(d:Nat)(op:UInt8)(h1:qx a=true)(h2:a≠yn):qe (mk a)=⟨114,mk a,{data:= #[]}⟩:=by
 have e:xB (mk a)=⟨114,mk a,{data:= #[]}⟩:=by
  unfold xB;rw[if_neg (λe=>h2 (by have:=congrArg (λs=>s.data.toList) e;exact this)),if_pos (show zZ (mk a)=true from h1)]
 exact(uT (.rel d op a h1 h2) (jj h1)).trans e
variable{d:Nat}{op:UInt8}{ts:List WayT}
theorem Qj{m:List UInt8}{t:WayT}(h0:op=124\/op=38)(h1:Gr true d op l ts)(h2:Gr false d op m [t]):qe (mk (l++op::m))=⟨op.toNat,mk l,mk m⟩:=by
 have hs:=(Gr.more d op l m ts t h0 h1 h2).scan.top sc0 0 rfl;have h6:2<=(ts++[t]).length:=by have:=h1.len.1;simp;omega
 have h4:=(hs.2.2.2 h6).2;have h5:=h1.scan.top sc0 0 rfl;have h7:(scn sc0 0 (l++op::m)).a=(l.length:Nat):=by
  have e:=(p8 h0 (scn sc0 0 l) ((0+l.length:Nat):Int)).2 h5.2.1;have f:=(h2.scan.top ⟨0,((0+l.length:Nat):Int),(scn sc0 0 l).o||op==124,(scn sc0 0 l).n||op==38⟩ (0+l.length+1) rfl).2.2.1 rfl;rw[ud,scn,e,f];simp
 have h3:=dJ (mk (l++op::m)) hs.1 hs.2.1 (by
  rw[qA,h4.1,h4.2];rcases h0 with rfl|rfl<;>decide) (by rw[zC,qA];simp)
 rw[qA,h7,if_pos (by omega),show((l.length:Nat):Int).toNat=l.length by omega,kh _ l m op (qA _)]at h3
 exact h3
theorem Ky{op op':UInt8}(h1:Gr true d op' l ts):qe (mk (40::(l++[41])))=qe (mk l):=by
 have hb:=oJ (.br d op op' l ts h1);have hl:1<=l.length:=by
  rcases l with _|⟨c,r⟩
  ·exact absurd rfl (cX h1)
  ·simp
 have h0:(mk (40::(l++[41]))).size=l.length+2:=by rw[zC,qA];simp
 have hx:(mk (40::(l++[41]))).extract 1 ((mk (40::(l++[41]))).size-1)=mk l:=by
  refine yB ?_;rw[ByteArray.data_extract,Array.toList_extract,List.extract_eq_take_drop,qA,h0];show(l++[41]).take (l.length+2-1-1)=l
  rw[show l.length+2-1-1=l.length by omega,List.take_left]
 rw[if_pos ⟨rfl,by
  rw[h0];unfold qR;rw[qA];have:(40::(l++[41])).getD (l.length+2-1) 0=(41:UInt8):=by
   rw[show l.length+2-1=l.length+1 by omega,List.getD_cons_succ]
   simp
  rw[this];rfl,by omega⟩,hx]at hb
 exact hb
theorem bm{b:List UInt8}(d:Nat)(op:UInt8)(h1:qx a=true)(h2:qx b=true)(h3:a≠yn)(h4:b≠yn):qe (mk (a++45::62::b))=⟨97,mk a,mk b⟩:=by
 have hx: ∀x∈a,x≠(45:UInt8):=qZ (qJ h1) (by decide)
 obtain⟨c1,c2,c3⟩:=jG (mk (a++45::62::b)) a (62::b) 45 (qA _) hx;have hn: ¬zZ (mk (a++45::62::b))=true:=λe=>by
  have:=qJ (a:=a++45::62::b) e 45 (by simp)
  revert this;decide
 have e:xB (mk (a++45::62::b))=⟨97,mk a,mk b⟩:=by
  unfold xB;rw[if_neg,if_neg hn]
  ·unfold kp
   have h7:qX (mk (a++45::62::b)) 45=mk a:=c1;have h6:qS (mk (a++45::62::b)) 45=mk (62::b):=c2;have h5:yu (mk (a++45::62::b)) 45=true:=c3;have c4:(mk (62::b)).extract 1 (mk (62::b)).size=mk b:=yB (by rw[xO];rfl)
   rw[h7,h6,h5,c4,if_neg,if_neg]
   ·rintro(h|h|h|h)
    ·rw[show zZ (mk a)=true from h1]at h;cases h
    ·rw[show zZ (mk b)=true from h2]at h;cases h
    ·exact h3 (congrArg (λs=>s.data.toList) h)
    ·have:=congrArg (λs=>s.data.toList) h
     exact h4 (by simpa[qA,iP,yn]using this)
   ·rintro(h|h|h)
    ·cases h
    ·rw[zC,qA]at h;simp at h
    ·exact h rfl
  ·intro e
   have:=congrArg (λs=>s.data.toList) e;have h0:(45:UInt8)∈uB.data.toList:=by rw[←this];simp[qA]
   revert h0;decide
 exact(uT (.arrow d op a b h1 h2 h3 h4) (dI h1 h2)).trans e
theorem aV{node a b:BA}(h:qe a=qe b)(f:Nat):qW now node f a=qW now node f b:=by
 cases f<;>rw[qW,qW,h]
theorem jL(ts:List (Nod×Nod))(x:Nod)(l m:List WayT):qO ts x (l++m)=qO ts x l++qO ts x m:=by
 induction l with
 |nil=>simp[qO]
 |cons t l ih=>rw[List.cons_append,qO,ih,qO,Ov]
theorem vI(ts:List (Nod×Nod))(x:Nod)(op:UInt8)(l:List WayT):qY ts x (jO op l)=qO ts x l:=by
 unfold jO;split
 ·simp[qO]
 ·rw[qY,if_neg]
  split<;>decide
theorem gY(ht: ∀s∈now,xG s=true)(hx:NmN x k n (some r)){b:Bool}(h:Gr b d op l ts): ∀f,l.length<=f->qW now (txT x) f (mk l)=((qO (qt now) x ts).filter λy=> !y.isTh).map txT:=by
 induction h with
 |this d op=>
  intro f _;rw[XG ht hx (Qi d op) f];simp[qO,qY,zV,vr]
 |rel d op a h1 h2=>
  intro f _;have e:=XH d op h1 h2;rw[bh hx (by rw[e]) h1 (by rw[e]) f]
  have e3:(x.to (mk a)).isTh=false:=Uo (j7 h1);simp[qO,qY,zV,vr,e3]
 |arrow d op a b h1 h2 h3 h4=>
  intro f _;have e:=bm d op h1 h2 h3 h4;rw[bj ht hx (by rw[e]) h1 h2 (by rw[e]) (by rw[e]) f]
  have e3: ∀y:Nod,(y.to (mk b)).isTh=false:=λy=>Uo (j7 h2);simp[qO,qY,zV,vr,List.filter_map,Function.comp_def,e3]
 |br d op op' l ts h1 ih=>
  intro f hf;rw[aV (Ky (op:=op) h1) f,ih f (by simp at hf;omega)]
  simp[qO,vI]
 |one d op l ts h1 ih=>exact ih
 |more d op l m ts t hop h1 h2 ih1 ih2=>
  intro f hf;have e:=Qj hop h1 h2;simp only[OK,OL]at hf;obtain⟨g,rfl⟩: ∃g,f=g+1:=⟨f-1,by omega⟩
  have hi:(qe (mk (l++op::m))).is=op.toNat:=by rw[e]
  have h0: ¬((op.toNat:Int)=116)/\ ¬((op.toNat:Int)=114)/\ ¬((op.toNat:Int)=97):=by rcases hop with rfl|rfl<;>decide
  rw[qW,hi,if_neg h0.1,if_neg h0.2.1,if_neg h0.2.2,e];dsimp only;rw[ih1 g (by omega),ih2 g (by omega),jL,List.filter_append,OR]
theorem Zg{α:Type}{p q:α->Bool}: ∀{l:List α},(∀a∈l,p a=q a)->l.find? p=l.find? q:=by
 intro l
 induction l with
 |nil=>intro _;rfl
 |cons a l ih=>
  intro h;rw[List.find?_cons,List.find?_cons,h a (by simp),ih λb hb=>h b (by simp[hb])]
theorem pM(hv: ∀y∈xs,xm y=true)(hx:NmN x k n (some r)):
  qD (qh xs) (txT x)=match xs.find? (λs=>decide (qU (rd0 s)=x.k/\zh (rd0 s)=x.r))with|some y=>xr y|none=>{data:= #[]}:=by
 unfold qD qh;have e0:(ofS (txT x)).toList=k++35::r:=by
  rw[uF hx];exact bF k n r hx.hk hx.hn
 rw[e0,List.find?_map];have e1:xs.find? ((λz:BA×BA=>z.1.toList==k++35::r)∘λs=>(qT s,xr s))=xs.find? (λs=>decide (qU (rd0 s)=x.k/\zh (rd0 s)=x.r)):=by
  refine Zg λy hy=>?_;obtain⟨-,k',r',wy,op,ts,d⟩:=xL y (hv y hy);obtain⟨a1,a2,-,-⟩:=jl y d;show((qT y).toList==k++35::r)=_
  rw[a1,a2,(uh y d).1,Lib.toList_data,qA];have h4:x.k=mk k:=by rw[hx.e]
  have h0:x.r=mk r:=by rw[hx.e];rfl
  rw[h4,h0];by_cases e:k'=k/\r'=r
  ·rw[e.1,e.2];simp
  ·have e2: ¬(mk k'=mk k/\mk r'=mk r):=λh=>e ⟨bg h.1,bg h.2⟩
   rw[Uo e2,beq_eq_false_iff_ne];intro h;have h1:=jf k' r' 35 (qZ (qJ d.hk) m35);have h2:=jf k r 35 (qZ (qJ hx.hk) m35);rw[h,h2]at h1;have h3:=List.append_inj h (Option.some.inj h1).symm;exact e ⟨h3.1,(List.cons.inj h3.2).2⟩
 rw[e1];cases xs.find? (λs=>decide (qU (rd0 s)=x.k/\zh (rd0 s)=x.r))<;>rfl
theorem ow(hv: ∀y∈xs,xm y=true)(ht: ∀s∈now,xG s=true)(hx:NmN x k n (some r)):
  ((qD (qh xs) (txT x)).size=0/\qI (qt now) (qi xs) x=[])\/((qD (qh xs) (txT x)).size≠0/\ ∀f,(qD (qh xs) (txT x)).size<=f->qW now (txT x) f (qD (qh xs) (txT x))=(qI (qt now) (qi xs) x).map txT):=by
 rw[pM hv hx];unfold qI qi;cases hf:xs.find? (λs=>decide (qU (rd0 s)=x.k/\zh (rd0 s)=x.r))with
 |none=>
  left
  refine⟨rfl,?_⟩;simp[qY,zV,qO]
 |some y=>
  right
  have hy:=List.mem_of_find?_eq_some hf;obtain⟨-,k',r',wy,op,ts,d⟩:=xL y (hv y hy);obtain⟨-,-,a3,-⟩:=jl y d;have hw:=(uh y d).2.1;dsimp only;rw[hw,a3,zE];refine⟨λe=>cX d.gr (Oy e),λf hf=>?_⟩;rw[gY ht hx d.gr f hf,vI]
theorem Jf(h:NmN y k n o)(hy:y.isTh=false): ∃r,NmN y k n (some r):=by
 cases o with
 |none=>rw[(vE h).2 rfl]at hy;cases hy
 |some r=>exact⟨r,h⟩
theorem Jg(ht: ∀s∈now,xG s=true)(hx:NmN x k n (some r)){b:Bool}(h:Gr b d op l ts): ∀y∈qO (qt now) x ts,y.isTh=false-> ∃k n r,NmN y k n (some r):=by
 induction h with
 |this d op=>
  intro y hy h0;simp[qO,qY,zV,vr]at hy;obtain⟨k,n,o,hn⟩:=vl ht hy;obtain⟨r,hr⟩:=Jf hn h0;exact⟨k,n,r,hr⟩
 |rel d op a h1 h2=>
  intro y hy h0;simp[qO,qY,zV,vr]at hy;rw[hy];exact⟨k,n,a,ou hx h1⟩
 |arrow d op a b h1 h2 h3 h4=>
  intro y hy h0;simp[qO,qY,zV,vr]at hy;obtain⟨z,⟨hz,-⟩,rfl⟩:=hy;obtain⟨k,n,o,hn⟩:=vl ht hz;exact⟨k,n,b,ou hn h2⟩
 |br d op op' l ts h1 ih=>
  intro y hy h0;simp[qO,vI]at hy;exact ih y hy h0
 |one d op l ts h1 ih=>exact ih
 |more d op l m ts t hop h1 h2 ih1 ih2=>
  intro y hy h0;rw[jL]at hy;rcases OS.1 hy with e|e
  ·exact ih1 y e h0
  ·exact ih2 y e h0
theorem bn(hv: ∀y∈xs,xm y=true)(ht: ∀s∈now,xG s=true)(hx:NmN x k n (some r))(hy:y∈qI (qt now) (qi xs) x): ∃k n r,NmN y k n (some r):=by
 unfold qI qi at hy;obtain⟨h1,h2⟩:=OW.1 hy;cases hf:xs.find? (λs=>decide (qU (rd0 s)=x.k/\zh (rd0 s)=x.r))with
 |none=>rw[hf]at h1;simp[qY,zV,qO]at h1
 |some s=>
  rw[hf]at h1;dsimp only at h1;obtain⟨-,k',r',wy,op,ts,d⟩:=xL s (hv s (List.mem_of_find?_eq_some hf));rw[(jl s d).2.2.1,vI]at h1;exact Jg ht hx d.gr y h1 (by simpa using h2)
theorem Qk(hm: ∀z∈met,∃k n r,NmN z k n (some r))(hy:NmN y k n (some r)):yE (met.map txT) (txT y)<0↔y∉met:=by
 unfold yE;cases hf:(met.map txT).findIdx? (λx=>x.toList==(txT y).toList)with
 |none=>
  simp only[Int.reduceNeg,Int.reduceLT,true_iff];intro h;rw[List.findIdx?_eq_none_iff]at hf;have:=hf (txT y) (OY.2 ⟨y,h,rfl⟩);simp at this
 |some i=>
  have h0: ¬((i:Int)<0):=by omega
  simp only[h0,false_iff];obtain⟨hi,he,-⟩:=List.findIdx?_eq_some_iff_getElem.1 hf;rw[jn,decide_eq_true_iff,List.getElem_map]at he;have hz:met[i]'(by simpa using hi)∈met:=List.getElem_mem _
  obtain⟨k',n',r',h1⟩:=hm _ hz;rw[←pd h1 hy he];exact λh=>h hz
theorem Zh(h:xt s=true):s.size<=1000:=by
 obtain⟨k,n,r,ht,hk,hn,hr⟩:=jH s h;have a1:=qQ hk;have a2:=qQ hn;have a3:=qQ hr;rw[yB ht,zE];simp only[OK,OL];omega
theorem bp(h:y8 s=true):(qX s 64).size<=1000/\(qS s 64).size<=1000:=by
 rw[jv]at h;obtain⟨k,n,r,k2,n2,o,d⟩:=iY s h;obtain⟨c1,c2,-⟩:=k9 s k n r k2 n2 o d;have a1:=qQ d.hk;have a2:=qQ d.hn;have a3:=qQ d.hr;have a4:=qQ d.hk2;have a5:=qQ d.hn2;have a6:(zO o).length<=37:=by
  cases o with
  |none=>simp[zO]
  |some x=>have:=qQ (d.ho x rfl);simp[zO];omega
 rw[c1,c2,zE,zE];simp only[OK,OL];omega
theorem io(x:BA):x.toList.isEmpty=true↔x.size=0:=by
 rw[Lib.toList_data,List.isEmpty_iff]
 constructor
 ·intro h
  show x.data.size=0
  rw[←Array.length_toList,h];rfl
 ·intro h
  refine Oy ?_;rw[Array.length_toList];exact h
theorem cR{x:BA}(h: ¬x.size=0):x.toList.isEmpty=false:=by
 cases e:x.toList.isEmpty
 ·rfl
 ·exact absurd ((io x).1 e) h
def Zi(rs:List (BA×BA))(s:BA):Value:=
 if xt s=true then(if(qD rs s).size=0 then .tuple #[.string qk,.string qk,.bool false,.int .i64 5]else .tuple #[.string s,.string qk,.bool false,.int .i64 0])
 else if y8 s=true/\zj (qS s 64)=true then(if(qD rs (qX s 64)).size=0 then .tuple #[.string qk,.string qk,.bool true,.int .i64 5]else .tuple #[.string (qX s 64),.string (qS s 64),.bool true,.int .i64 0])
 else .tuple #[.string qk,.string qk,.bool false,.int .i64 4]
theorem Zj(b:Nat)(g:Rg)(rs:List (BA×BA))(s:BA)(w:World)(hg:xX w b g)(hr:vL w g.rulesV rs)(hl:rs.length<=12)(hs:s.size<=maxLen):
  Calls prog 168 #[.pointer (some ⟨b,0,none⟩),.string s] w λe w'=>e=.returned (Zi rs s)/\ ∃n,w'=w.drewN n:=by
 have h5:=cH s w hs;have h0:Hid (∀(node:BA) (n:Nat),node.size<=1000->Calls prog 72 #[.pointer (some ⟨b,0,none⟩),.string node] (w.drewN n) λe w'=>e=.returned (.string (qD rs node))/\ ∃n,w'=w.drewN n):=by
  intro node n hn;refine(mP b g rs node (w.drewN n) hg hr hl (by omega)).mono ?_
  rintro e w' ⟨he,m,rfl⟩;exact⟨he,n+m,dc w n m⟩
 have h3:Hid (∀n:Nat,Calls prog 71 #[.string s] (w.drewN n) λe w'=>e=.returned (.tuple #[.string (qX s 64),.string (qS s 64),.bool (y8 s)])/\ ∃n,w'=w.drewN n):=by
  intro n;refine(tC s (w.drewN n) hs).mono ?_;rintro e w' ⟨he,m,rfl⟩;exact⟨he,n+m,dc w n m⟩
 have h4:Hid (∀n:Nat,Calls prog 118 #[.string (qS s 64)] (w.drewN n) λe w'=>e=.returned (.bool (zj (qS s 64)))/\ ∃n,w'=w.drewN n):=by
  intro n;obtain⟨A,Z,O,hA,hZ,hO,ha,hz,-⟩:=yZ s 64 hs;refine(ko (qS s 64) (w.drewN n) (by rw[hZ];exact hz)).mono ?_
  rintro e w' ⟨he,m,rfl⟩;exact⟨he,n+m,dc w n m⟩
 unfold Zi;by_cases h1:xt s=true
 ·rw[if_pos h1]
  rw[h1]at h5;have hz:=Zh h1;have h9:=λn=>h0.out s n hz;by_cases h2:(qD rs s).size=0
  ·rw[if_pos h2]
   have hi:(qD rs s).toList.isEmpty=true:=(io _).2 h2;generalize qD rs s=way at *;clear hg hr h0 h1 h3 h4;go_enter func168,ntmps168
   go_wp2_with(first|(go_at_call 73;refine h5.mono ?_;rintro e w1 ⟨rfl,n1,hb⟩;subst w1)|(go_at_call 72;refine(h9 _).mono ?_;rintro e w2 ⟨rfl,h6⟩))
   exact bodyPost_ret (v:=.tuple #[.string {data:= #[]},.string {data:= #[]},.bool false,.int .i64 5]) (by simp[results,results168,go_sem]) rfl ⟨rfl,h6⟩
  ·rw[if_neg h2]
   have hi:(qD rs s).toList.isEmpty=false:=cR h2;generalize qD rs s=way at *;clear hg hr h0 h1 h3 h4;go_enter func168,ntmps168
   go_wp2_with(first|(go_at_call 73;refine h5.mono ?_;rintro e w1 ⟨rfl,n1,hb⟩;subst w1)|(go_at_call 72;refine(h9 _).mono ?_;rintro e w2 ⟨rfl,h6⟩))
   exact bodyPost_ret (v:=.tuple #[.string s,.string {data:= #[]},.bool false,.int .i64 0]) (by simp[results,results168,go_sem]) rfl ⟨rfl,h6⟩
 ·rw[if_neg h1]
  have hd:xt s=false:=by simpa using h1
  rw[hd]at h5;cases ht:y8 s
  ·rw[if_neg (by rintro⟨e,-⟩;cases e)]
   have h7:=λn=>h3.out n;rw[ht]at h7;have h8:=λn=>h4.out n;generalize zj (qS s 64)=c at *;generalize qX s 64=A at *;generalize qS s 64=Z at *;clear hg hr h0 h1 hd h3 h4 ht;go_enter func168,ntmps168
   go_wp2_with(first|(go_at_call 73;refine h5.mono ?_;rintro e w1 ⟨rfl,n1,hb⟩;subst w1)|(go_at_call 71;refine(h7 _).mono ?_;rintro e w3 ⟨rfl,n3,hj⟩;subst w3)|(go_at_call 118;refine(h8 _).mono ?_;rintro e w4 ⟨rfl,n4,hf⟩;subst w4))
   exact bodyPost_ret (v:=.tuple #[.string {data:= #[]},.string {data:= #[]},.bool false,.int .i64 4]) (by simp[results,results168,go_sem]) rfl ⟨rfl,_,rfl⟩
  ·have h7:=λn=>h3.out n
   rw[ht]at h7;have h8:=λn=>h4.out n;have hz:=(bp ht).1;have h9:=λn=>h0.out (qX s 64) n hz;cases hc:zj (qS s 64)
   ·rw[if_neg (by rintro⟨-,e⟩;cases e)]
    rw[hc]at h8;generalize qX s 64=A at *;generalize qS s 64=Z at *;clear hg hr h0 h1 hd h3 h4 ht hc h9 hz;go_enter func168,ntmps168
    go_wp2_with(first|(go_at_call 73;refine h5.mono ?_;rintro e w1 ⟨rfl,n1,hb⟩;subst w1)|(go_at_call 71;refine(h7 _).mono ?_;rintro e w3 ⟨rfl,n3,hj⟩;subst w3)|(go_at_call 118;refine(h8 _).mono ?_;rintro e w4 ⟨rfl,n4,hf⟩;subst w4))
    exact bodyPost_ret (v:=.tuple #[.string {data:= #[]},.string {data:= #[]},.bool false,.int .i64 4]) (by simp[results,results168,go_sem]) rfl ⟨rfl,_,rfl⟩
   ·rw[if_pos ⟨rfl,rfl⟩]
    rw[hc]at h8;by_cases h2:(qD rs (qX s 64)).size=0
    ·rw[if_pos h2]
     have hi:(qD rs (qX s 64)).toList.isEmpty=true:=(io _).2 h2;generalize qD rs (qX s 64)=way at *;generalize qX s 64=A at *;generalize qS s 64=Z at *;clear hg hr h0 h1 hd h3 h4 ht hc;go_enter func168,ntmps168
     go_wp2_with(first|(go_at_call 73;refine h5.mono ?_;rintro e w1 ⟨rfl,n1,hb⟩;subst w1)|(go_at_call 71;refine(h7 _).mono ?_;rintro e w3 ⟨rfl,n3,hj⟩;subst w3)|(go_at_call 118;refine(h8 _).mono ?_;rintro e w4 ⟨rfl,n4,hf⟩;subst w4)|(go_at_call 72;refine(h9 _).mono ?_;rintro e w2 ⟨rfl,h6⟩))
     exact bodyPost_ret (v:=.tuple #[.string {data:= #[]},.string {data:= #[]},.bool true,.int .i64 5]) (by simp[results,results168,go_sem]) rfl ⟨rfl,h6⟩
    ·rw[if_neg h2]
     have hi:(qD rs (qX s 64)).toList.isEmpty=false:=cR h2;generalize qD rs (qX s 64)=way at *;generalize qX s 64=A at *;generalize qS s 64=Z at *;clear hg hr h0 h1 hd h3 h4 ht hc;go_enter func168,ntmps168
     go_wp2_with(first|(go_at_call 73;refine h5.mono ?_;rintro e w1 ⟨rfl,n1,hb⟩;subst w1)|(go_at_call 71;refine(h7 _).mono ?_;rintro e w3 ⟨rfl,n3,hj⟩;subst w3)|(go_at_call 118;refine(h8 _).mono ?_;rintro e w4 ⟨rfl,n4,hf⟩;subst w4)|(go_at_call 72;refine(h9 _).mono ?_;rintro e w2 ⟨rfl,h6⟩))
     exact bodyPost_ret (v:=.tuple #[.string A,.string Z,.bool true,.int .i64 0]) (by simp[results,results168,go_sem]) rfl ⟨rfl,h6⟩
