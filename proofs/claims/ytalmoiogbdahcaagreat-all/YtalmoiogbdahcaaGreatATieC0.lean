import Derived.Test.YtalmoiogbdahcaaGreatAGhA
import Derived.Test.YtalmoiogbdahcaaGreatATieA
open Go.Proofs.Tryz
namespace Go.Proofs.YtalmoiogbdahcaaGreat
set_option maxRecDepth 100000
set_option maxHeartbeats 8000000
open Go.RowKit
def qi(xs:List BA)(x:Nod):WayT:=match xs.find? (λs=>decide (qU (rd0 s)=x.k/\zh (rd0 s)=x.r))with|some s=>(xZ s).1|none=>.mk 3 qk qk []
def zp(w:World)(mb:Nat)(xs:List BA):Prop:= ∃m lor,zt w yX mb m/\RMap w lor xs m
variable{α:Type}
theorem fQ{p:α->Bool}: ∀{l:List α} {a:α},l.find? p=some a-> ∃i:Nat,l[i]?=some a/\p a=true:=by
 intro l a h;have h1:=List.mem_of_find?_eq_some h;obtain⟨i,hi⟩:=OX.1 h1;exact⟨i,hi,List.find?_some h⟩
variable{mb:Nat}{w:World}{xs:List BA}
theorem zp.look(h:zp w mb xs): ∃m,zt w yX mb m/\ ∀x:Nod,WayAt w (λ_=>True) (qi xs x) ((getM m (zl x.k x.r)).getD (.agg #[.int .i64 3,.string qk,.string qk,.slice none 0 0])):=by
 obtain⟨m,lor,h1,h2⟩:=h;refine⟨m,h1,λx=>?_⟩;obtain⟨es,cl,q1,q2,q3,q4⟩:=h1;unfold qi;cases hf:xs.find? (λs=>decide (qU (rd0 s)=x.k/\zh (rd0 s)=x.r))with
 |none=>
  have hn:getM m (zl x.k x.r)=none:=by
   refine vY λp hp e=>?_;obtain⟨i,hi⟩:=OX.1 hp;have h0:=(OE.1 hi).1;rw[h2.len]at h0;have hk:=h2.key i _ _ (OC h0) hi;rw[hk]at e;obtain⟨e1,e2⟩:=de e;have:=List.find?_eq_none.1 hf xs[i] (List.getElem_mem h0);simp[e1,e2]at this
  rw[hn];exact .leaf 3 qk qk
 |some s=>
  obtain⟨i,hi,hp⟩:=fQ hf;have h0:=(OE.1 hi).1;rw[←h2.len]at h0;have h3:m[i]?=some m[i]:=OC h0;have hk:=h2.key i s _ hi h3;have hw:=h2.way i s _ hi h3;simp at hp;rw[hp.1,hp.2]at hk;have hg:getM m (zl x.k x.r)=some m[i].2:=ia q4 (by rw[←hk];exact List.getElem_mem h0)
  rw[hg];exact hw.move2 λg cur _ _=>⟨trivial,rfl⟩
variable{w':World}
theorem zp.move(h:zp w mb xs)(hm: ∀(Gd:Value->Prop) (m:List (Value×Value)),zt w Gd mb m->w'.heap[mb]?=w.heap[mb]?)(hw: ∀(g:Nat) (cur:Array Value),w.heap[g]?=some (.cells cur 106 (0,0))->w'.heap[g]?=w.heap[g]?):zp w' mb xs:=by
 obtain⟨m,lor,h1,h2⟩:=h;exact⟨m,lor,h1.move (hm _ _ h1),h2.move λg cur _ hc=>hw g cur hc⟩
theorem zp.below(h:zp w mb xs)(hb:Below w.heap.size w w'):zp w' mb xs:=
 h.move (λ_ _ hm=>hb.block _ hm.lt) (λ_ _ hg=>hb.block _ (qc hg))
variable{L L':TL}{S S':TS}{U:List BA}{f:Nod->Option Value}{lo tb:Nat}{who:Nod->Nat}
theorem zp.rstep(h:zp w L.mb xs)(h0:TiesAt U w lo tb L S f who)(r:RStep U lo tb f who L S w L' S' w'):zp w' L'.mb xs:=by
 rw[r.loc];refine h.move (λGd m hm=>r.fr.block _ hm.lt λhx=>?_) λg cur hg=>r.fr.block g (qc hg) λhx=>?_
 ·exact(ij h0.maps).1.2.1 (h0.rl.kindM hx hm)
 ·rcases h0.rl.kind hx hg with e|e<;>revert e<;>decide
variable{x:Nod}
theorem KE{vs:List Nod}{i:Nat}(h:vs[i]?=some x):(vs.flatMap ndC)[i * 3]?=some (.string x.k)/\(vs.flatMap ndC)[i * 3+1]?=some (.string x.n)/\(vs.flatMap ndC)[i * 3+2]?=some (.string x.r):=by
 induction vs generalizing i with
 |nil=>simp at h
 |cons r rs ih=>
  rw[List.flatMap_cons];cases i with
  |zero=>simp at h;subst h;exact⟨rfl,rfl,rfl⟩
  |succ i=>
   obtain⟨h1,h2,h3⟩:=ih (i:=i) (by simpa using h)
   rw[show(i+1) * 3=i * 3+3 by omega,show i * 3+3+1=i * 3+1+3 by omega,show i * 3+3+2=i * 3+2+3 by omega]
   exact⟨h1,h2,h3⟩
variable{base n size:Nat}{v:Value}
theorem xj{e:TypeId}{xs:List Value}(h:w.ownsRow base e size v n xs)(hn:0<n): ∃g cap,v=.slice (some ⟨g,0,none⟩) n cap/\ ∀j u,xs[j]?=some u->w.cell? ⟨g,j,none⟩=some u:=by
 rcases h.2 with⟨-,h0⟩|⟨g,cap,cur,rfl,-,hg,-,-,-,ht⟩
 ·omega
 ·refine⟨g,cap,rfl,λj u hj=>?_⟩
  rw[←ht]at hj;have h1:j<n * size:=by
   have:=(OE.1 hj).1;rw[OQ]at this;omega
  rw[OJ h1]at hj;exact qa (cs:=cur.toList) (t:=e) (fz:=(0,0)) (by simpa using hg) hj
theorem mj(h:n<8192):floatToIntVal .f64 (fb n) .i64=some (n:Int):=by
 unfold floatToIntVal;rw[Jr h];have e1:IntKind.i64.min= -9223372036854775808:=by decide
 have e2:IntKind.i64.max=9223372036854775807:=by decide
 simp[e1,e2];omega
theorem lS[DecidableEq α]{l:List α}{a:α}(h:a∈l):l[xe l a]?=some a:=by
 have h1:=iS h;rw[OC h1];exact congrArg some (List.getElem_idxOf h1)
structure NStep(n:Nat)(U:List BA)(lo tb:Nat)(f:Nod->Option Value)(who:Nod->Nat)(L:TL)(S:TS)(w:World)(L':TL)(S':TS)(w':World):Prop where
 at':TiesAt U w' lo tb L' S' f who
 fr:Frm (λk=>ur L.nt L.mt L.st k\/mS L k) w w'
 ownT: ∀k,L'.st.ownBlock=some k->L.st.ownBlock=some k\/w.heap.size<=k
 ownR: ∀k,L'.sr.ownBlock=some k->L.sr.ownBlock=some k\/w.heap.size<=k
 loc:L'={L with st:=L'.st,sr:=L'.sr}
 uss:S'.uss=S.uss
 le:S.le S'
 tl:S'.ths.length<=S.ths.length+n
theorem RStep.toN(h:RStep U lo tb f who L S w L' S' w'):NStep 0 U lo tb f who L S w L' S' w':=by
 refine⟨h.at',h.fr.mono λ_ _ e=>Or.inr e,?_,h.own,?_,h.uss,h.le,by rw[h.ths];exact Uc _⟩
 ·intro k hk;rw[h.loc]at hk;exact Or.inl hk
 ·have hl:=h.loc
  rw[hl]
variable{w'':World}
theorem NStep.trans{m:Nat}{L'':TL}{S'':TS}(h:NStep n U lo tb f who L S w L' S' w')(k:NStep m U lo tb f who L' S' w' L'' S'' w''):NStep (n+m) U lo tb f who L S w L'' S'' w'':=by
 refine⟨k.at',h.fr.trans k.fr ?_,?_,?_,?_,k.uss.trans h.uss,h.le.trans k.le,by have:=h.tl;have:=k.tl;omega⟩
 ·intro j hj hx
  rcases hx with hx|hx
  ·left
   rcases hx with e|e|e
   ·rw[h.loc]at e;exact Or.inl e
   ·rw[h.loc]at e;exact Or.inr (Or.inl e)
   ·rcases h.ownT j e with e|e
    ·exact Or.inr (Or.inr e)
    ·omega
  ·right
   rcases hx with e|e|e
   ·rw[h.loc]at e;exact Or.inl e
   ·rw[h.loc]at e;exact Or.inr (Or.inl e)
   ·rcases h.ownR j e with e|e
    ·exact Or.inr (Or.inr e)
    ·omega
 ·intro j hj
  rcases k.ownT j hj with e|e
  ·exact h.ownT j e
  ·exact Or.inr (Ue h.fr.size e)
 ·intro j hj
  rcases k.ownR j hj with e|e
  ·exact h.ownR j e
  ·exact Or.inr (Ue h.fr.size e)
 ·have h1:=h.loc
  have h2:=k.loc;rw[h1]at h2;exact h2
theorem NumAt.aside{β:Type}{ea:α->Value}{eb:β->Value}{ca:α->List Value}{cb:β->List Value}{Ga Gb:Value->Prop}{tN tE:TypeId}{na ma nb:Nat}{sa sb:Value}{va:List α}{vb:List β}
  (ha:NumAt ea ca Ga tN tE size w lo na ma sa va) (hb:NumAt eb cb Gb tN tE size w lo nb mb sb vb) (h0:tN≠tE) (hn:na≠nb) (hm:ma≠mb) (hs: ∀k,sa.ownBlock=some k->sb.ownBlock≠some k) (hf:Frm (ur na ma sa) w w'):NumAt eb cb Gb tN tE size w' lo nb mb sb vb:=by
 refine hb.keep hf λk hk hx=>?_;obtain⟨es,c,qm,-⟩:=ha.map;obtain⟨es',c',qm',-⟩:=hb.map;rcases hk with rfl|rfl|hk<;>rcases hx with e|e|e
 ·exact hn e.symm
 ·have:=hb.blk;rw[e,qm]at this;injection this with this;cases this
 ·obtain⟨-,-,cur,q⟩:=qf ha.row _ e
  rw[hb.blk]at q;injection q with q;injection q with _ q;exact h0 q
 ·have:=ha.blk;rw[←e,qm']at this;injection this with this;cases this
 ·exact hm e.symm
 ·obtain⟨-,-,cur,q⟩:=qf ha.row _ e
  rw[qm']at q;injection q with q;cases q
 ·obtain⟨-,-,cur,q⟩:=qf hb.row _ hk
  rw[e,ha.blk]at q;injection q with q;injection q with _ q;exact h0 q
 ·obtain⟨-,-,cur,q⟩:=qf hb.row _ hk
  rw[e,qm]at q;injection q with q;cases q
 ·exact hs k e hk
theorem TiesAt.thing(h:TiesAt U w lo tb L S f who)(hx:x.r=qk)(hl:S.ths.length<4000){e:Ending}(hp:v8 w lo L.nt L.mt L.st S.ths x e w'):
  e=.returned (.int .i64 (xe (zz S.ths x) x:Nat))/\ ∃st',NStep 1 U lo tb f who L S w {L with st:=st'} {S with ths:=zz S.ths x} w':=by
 obtain⟨he,st',hn,hf,ho⟩:=hp;refine⟨he,st',⟨?_,hf.mono λ_ _ e=>Or.inl e,ho,λ_ hk=>Or.inl hk,rfl,rfl,⟨vK _ _,List.prefix_refl _⟩,cF _ _⟩⟩;obtain⟨⟨a1,a2,a3,a4,a5⟩,⟨b1,b2,b3,b4⟩,⟨c1,c2,c3⟩,⟨d1,d2⟩,e1⟩:=ij h.maps;have kC: ∀(k:Nat) (cur:Array Value) (t:TypeId),w.heap[k]?=some (.cells cur t (0,0))->t≠176->t≠75->w'.heap[k]?=w.heap[k]?:=by
  intro k cur t hk t1 t2;refine hf.block k (qc hk) λhx=>?_;rcases h.th.kind hx hk with e|e
  ·exact t1 e
  ·exact t2 e
 have kM: ∀(k:Nat) (Gd:Value->Prop) (m:List (Value×Value)),zt w Gd k m->k≠L.mt->w'.heap[k]?=w.heap[k]?:=λk Gd m hk h4=>hf.block k hk.lt λhx=>h4 (h.th.kindM hx hk);have kR:df Value.string w' lo L.nr L.mr L.sr S.rels:=by
  have hh:=h.rl;refine⟨(kC L.nr _ _ hh.blk (by decide) (by decide)).trans hh.blk,hh.map.move (kM L.mr _ _ hh.map (Ne.symm b1)),qF hh.row λg hg=>?_,hh.nd,hh.lob,hh.lom⟩
  obtain⟨-,-,cur,q⟩:=qf hh.row g hg;exact kC g cur _ q (by decide) (by decide)
 have kU:jQ w' lo L.nu L.mu L.su S.uss:=h.th.aside h.us (by decide) h.ntu b2 h.stu hf
 have h0:TS.Ok U {S with ths:=zz S.ths x}:=by
  refine⟨?_,h.ok.ul,h.ok.rn,h.ok.rU,h.ok.r0,?_,h.ok.un,h.ok.Us⟩
  ·have:=cF S.ths x
   show(zz S.ths x).length<=4000
   omega
  ·intro q hq
   rcases yJ.1 hq with hq|hq
   ·exact h.ok.tn q hq
   ·rw[hq];exact hx
 have h3:TS.le S {S with ths:=zz S.ths x}:=⟨vK _ _,List.prefix_refl _⟩;obtain⟨ms,h2,h6⟩:=h.sub;obtain⟨mw,h1,h5⟩:=h.wh;refine⟨(kC tb _ _ h.blk (by decide) (by decide)).trans h.blk,hn,kR,kU,⟨ms,h2.move (kM _ _ _ h2.map (Ne.symm b3)),h6.le h3 h0⟩,⟨mw,h1.move (kM _ _ _ h1 (Ne.symm b4)),h5.le h3 h0⟩,h0,h.maps,h.ntu,?_,h.lob,h.los,h.low⟩
 intro k hk e;rcases ho k hk with e2|e2
 ·exact h.stu k e2 e
 ·have:=(qf h.us.row k e).1;omega
variable{sb:Nat}{ts:List (Nod×Nod)}
theorem SubAt.nstep(h:SubAt w lo sb S ts f)(h0:TiesAt U w lo tb L S f who)(r:NStep n U lo tb f who L S w L' S' w'):SubAt w' lo sb S' ts f:=by
 refine(h.keep r.fr ?_).le r.le;intro k _ hx cur e;rcases hx with hx|hx
 ·rcases h0.th.kind hx e with e|e<;>revert e<;>decide
 ·rcases h0.rl.kind hx e with e|e<;>revert e<;>decide
theorem zp.nstep(h:zp w L.mb xs)(h0:TiesAt U w lo tb L S f who)(r:NStep n U lo tb f who L S w L' S' w'):zp w' L'.mb xs:=by
 rw[r.loc];refine h.move (λGd m hm=>r.fr.block _ hm.lt λhx=>?_) λg cur hg=>r.fr.block g (qc hg) λhx=>?_
 ·rcases hx with hx|hx
  ·exact(ij h0.maps).1.1 (h0.th.kindM hx hm)
  ·exact(ij h0.maps).1.2.1 (h0.rl.kindM hx hm)
 ·rcases hx with hx|hx
  ·rcases h0.th.kind hx hg with e|e<;>revert e<;>decide
  ·rcases h0.rl.kind hx hg with e|e<;>revert e<;>decide
theorem wU(k n r:BA)(w:World):Calls prog 137 #[.agg #[.string k,.string n,.string r]] w λe w'=>e=.returned (.agg #[.string k,.string n,.string qk])/\Below w.heap.size w w':=by
 go_enter func137,ntmps137;go_wp2;exact bodyPost_ret (v:=.agg #[.string k,.string n,.string qk]) (by simp[results,results137,go_sem,qk]) rfl ⟨rfl,bl⟩
theorem NStep.tie(r:NStep n U lo tb f who L S w L' S' w'):iD L'=iD L:=by
 rw[r.loc];rfl
theorem TiesAt.cellN(h:TiesAt U w lo tb L' S f who)(e:iD L'=iD L){j:Nat}(hj:(iD L)[j]?=some v):w.cell? ⟨tb,j,none⟩=some v:=by
 have:=h.blk;rw[e]at this;exact qa this hj
variable{k:Nat}
theorem NStep.new{w0:World}(h0:TiesAt U w0 lo tb L S f who)(r:NStep n U lo tb f who L S w L' S' w')(hk:w0.heap.size<=k)(h1:k<w.heap.size):w'.heap[k]?=w.heap[k]?:=by
 refine r.fr.block k h1 λhx=>?_;rcases hx with hx|hx
 ·have:=(h0.th.lt hx).1;omega
 ·have:=(h0.rl.lt hx).1;omega
def YC(U:List BA)(lo tb:Nat)(f:Nod->Option Value)(who:Nod->Nat)(L:TL)(S:TS)(x:Nod)(w:World)(e:Ending)(w':World):Prop:=
 ∃(i:Nat) (L':TL) (S':TS),e=.returned (.int .i64 i)/\i=xe S'.ths x.th/\x.th∈S'.ths/\L'.nr=L.nr/\NStep 1 U lo tb f who L S w L' S' w'
theorem Gt(h:TiesAt U w lo tb L S f who)(x:Nod)(h0:uq x)(hl:S.ths.length<4000)(h1:lo<=w.heap.size):
  Calls prog 136 #[.pointer (some ⟨L.nt,0,none⟩),.agg #[.string x.k,.string x.n,.string qk]] w (YC U lo tb f who L S x w):=by
 refine(tm x.th h.th ⟨h0.1,h0.2.1,by show(0:Nat)<=_;omega⟩ h1 (by omega)).mono ?_
 intro e w' hp;obtain⟨he,st',hs⟩:=h.thing (x:=x.th) rfl hl hp;exact⟨_,{L with st:=st'},{S with ths:=zz S.ths x.th},he,rfl,yJ.2 (Or.inr rfl),rfl,hs⟩
def G1(n:Nat)(U:List BA)(lo tb:Nat)(f:Nod->Option Value)(who:Nod->Nat)(L:TL)(S:TS)(x:Nod)(i:Nat)(w:World)(e:Ending)(w':World):Prop:=
 ∃(j:Nat) (L':TL) (S':TS),e=.returned (.int .i64 j)/\Value.complex .f64 (fb i) (fb j)=cxN S' x/\Kn S' x/\NStep n U lo tb f who L S w L' S' w'
theorem Gu(h:TiesAt U w lo tb L S f who)(x:Nod)(hx:x.th∈S.ths)(hr:x.r∈U)(h0:lo<=w.heap.size):
  Calls prog 138 #[.pointer (some ⟨L.nr,0,none⟩),.string x.r] w (G1 0 U lo tb f who L S x (xe S.ths x.th) w):=by
 refine(oX Value.string x.r x.r rfl h.rl ⟨x.r,rfl,h.ok.Us x.r hr⟩ (λa _ e=>by injection e) h0 (by have:=h.ok.rl;omega)).mono ?_
 intro e w' hp;obtain⟨he,sr',hs⟩:=h.rel hr hp;exact⟨_,{L with sr:=sr'},{S with rels:=zz S.rels x.r},he,rfl,⟨hx,yJ.2 (Or.inr rfl)⟩,hs.toN⟩
def xS:Prop:= ∀{U:List BA} {w:World} {lo tb:Nat} {L:TL} {S:TS} {f:Nod->Option Value} {who:Nod->Nat},TiesAt U w lo tb L S f who-> ∀x:Nod,uq x->x.r∈U->S.ths.length<4000->lo<=w.heap.size->
  Calls prog 86 #[.pointer (some ⟨tb,0,none⟩),.agg #[.string x.k,.string x.n,.string x.r]] w λe w'=> ∃L' S',e=.returned (cxN S' x)/\Kn S' x/\NStep 1 U lo tb f who L S w L' S' w'
def yz(w:World)(v:Value)(us:List Value):Prop:=
 ∃o c,v=.slice o us.length c/\ ∀(j:Nat) (u:Value),us[j]?=some u-> ∃g,o=some ⟨g,0,none⟩/\w.cell? ⟨g,j,none⟩=some u
theorem yz.nil(w:World)(o:Option Addr)(c:Nat):yz w (.slice o 0 c) []:=⟨o,c,rfl,λj u h=>by simp at h⟩
variable{t:TypeId}{us:List Value}
theorem vw(h:w.ownsRow base t 1 v us.length us):yz w v us:=by
 rcases h.2 with⟨rfl,h0⟩|⟨g,cap,cur,rfl,-,hg,-,-,-,ht⟩
 ·have:us=[]:=Oy h0
  subst this;exact yz.nil _ _ _
 ·refine⟨_,_,rfl,λj u hj=>⟨g,rfl,?_⟩⟩
  rw[←ht]at hj;have h1:j<us.length * 1:=by
   have:=(OE.1 hj).1;rw[OQ]at this;omega
  rw[OJ h1]at hj;exact qa (cs:=cur.toList) (t:=t) (fz:=(0,0)) (by simpa using hg) hj
theorem yz.keep(h:yz w v us)(hk: ∀g n c,v=.slice (some ⟨g,0,none⟩) n c->us≠[]->g<w.heap.size->w'.heap[g]?=w.heap[g]?):yz w' v us:=by
 obtain⟨o,c,rfl,hc⟩:=h;refine⟨o,c,rfl,λj u hj=>?_⟩;obtain⟨g,rfl,h1⟩:=hc j u hj;refine⟨g,rfl,?_⟩;rw[←h1];exact World.cell?_of_block (hk g _ _ rfl (by intro e;rw[e]at hj;simp at hj) (qp h1))
theorem yz.below(h:yz w v us)(hb:Below w.heap.size w w'):yz w' v us:=
 h.keep λg _ _ _ _ hl=>hb.block g hl
theorem rV(w:World)(x:Option Addr)(n c:Nat)(h:n<=c):(Builtin.append_ #[170,170] 170 #[.slice x n c,.slice none 0 0]).run prog w=.ok (.slice x n c) w:=by
 cases x<;>simp[Builtin.append_,run_underlying underlying170,go_sem,h]
theorem G2(w:World)(base:Nat)(v u:Value)(us vs:List Value)(h4:w.ownsRow base 136 1 v us.length us)(hu:yz w u vs)(h1: ∀z∈vs,z.oneCell'=true)(hb:base<=w.heap.size)(hl:us.length+vs.length<=100000000)(hn:vs=[]->u=.slice none 0 0\/ ∃g c,u=.slice (some ⟨g,0,none⟩) 0 c):
  ∃v' w',(Builtin.append_ #[170,170] 170 #[v,u]).run prog w=.ok v' w'/\w'.ownsRow base 136 1 v' (us++vs).length (us++vs)/\w.grownBy w' v.ownBlock/\(∀k,v'.ownBlock=some k->v.ownBlock=some k\/w.heap.size<=k):=by
 obtain⟨i,hi,h8⟩:=Un.1 Tryz.infoCx;simp only[Prod.mk.injEq]at h8;obtain⟨e1,e2,e3⟩:=h8;have go: ∀(g c:Nat),u=.slice (some ⟨g,0,none⟩) vs.length c->(∀(j:Nat) (z:Value),vs[j]?=some z->w.cell? ⟨g,j,none⟩=some z)-> ∃v' w',(Builtin.append_ #[170,170] 170 #[v,u]).run prog w=.ok v' w'/\w'.ownsRow base 136 1 v' (us++vs).length (us++vs)/\w.grownBy w' v.ownBlock/\(∀k,v'.ownBlock=some k->v.ownBlock=some k\/w.heap.size<=k):=by
  intro g c he hc;have hf:(us.length+vs.length) * 16<=140737488355328:=by omega
  obtain⟨v',w',hr,h2,h3,-,h5⟩:=run_append_own_at (P:=prog) w base 170 170 136 i (.complex .f64 0 0) 1 16 underlying170 hi e1 e2 e3 rfl (by decide) v us.length us h4 ⟨g,0,none⟩ vs.length c vs (by omega)
   (λj z hj=>by
     have e:(⟨g,0,none⟩:Addr).add j=⟨g,j,none⟩:=by
      unfold Addr.add;split
      ·rename_i h;rw[h]
      ·simp
     rw[e];exact hc j z hj) h1 (by unfold maxLen;omega) hf hb
  refine⟨v',w',by rw[he];exact hr,by rw[OK];exact h2,h3,λk hk=>?_⟩
  rcases h5 with h5|h5
  ·exact Or.inl (h5▸hk)
  ·rw[h5]at hk;injection hk with hk;right;omega
 obtain⟨o,c,hv,hc⟩:=hu;by_cases h6:vs=[]
 ·rcases hn h6 with hz|⟨g,c',hz⟩
  ·subst h6
   obtain⟨x,c2,h9,h7⟩: ∃x c,us.length<=c/\v=.slice x us.length c:=by
    rcases h4.2 with⟨rfl,h0⟩|⟨g,cp,cu,rfl,-,-,hd,-⟩
    ·exact⟨none,0,by omega,by rw[h0]⟩
    ·exact⟨_,cp,hd,rfl⟩
   rw[hz,h7];refine⟨_,w,rV w x _ c2 h9,by rw[List.append_nil,←h7];exact h4,⟨rfl,rfl,rfl,Uc _,λ_ _ _=>rfl⟩,λk hk=>Or.inl hk⟩
  ·exact go g c' (by rw[hz,h6];rfl) (λj z hj=>by rw[h6]at hj;simp at hj)
 ·obtain⟨z,hz⟩: ∃z,vs[0]?=some z:=⟨_,OC (List.length_pos_iff.2 h6)⟩
  obtain⟨g,rfl,-⟩:=hc 0 z hz;exact go g c hv λj z hj=>by
   obtain⟨g',h',ha⟩:=hc j z hj;have e:g=g':=by simpa using h'
   rw[e];exact ha
structure TA(U:List BA)(ts:List (Nod×Nod))(xs:List BA)(lo tb sb:Nat)(f:Nod->Option Value)(who:Nod->Nat)(L:TL)(S:TS)(w:World):Prop where
 t:TiesAt U w lo tb L S f who
 s:SubAt w lo sb S ts f
 r:zp w L.mb xs
 sb:sb<=w.heap.size
 tn:ts.length<=50
end Go.Proofs.YtalmoiogbdahcaaGreat
namespace Go.Proofs.YtalmoiogbdahcaaGreat
set_option maxRecDepth 100000
set_option maxHeartbeats 8000000
open Go.RowKit
variable{α:Type}{mb tb base n size sb k:Nat}{w w' w'':World}{xs U:List BA}{L L':TL}{S S':TS}{f:Nod->Option Value}{who:Nod->Nat}{x:Nod}{v:Value}{ts:List (Nod×Nod)}{t:TypeId}{us:List Value}
theorem TA.lo{lo:Nat}(h:TA U ts xs lo tb sb f who L S w):lo<=w.heap.size:=Ue h.t.lob (Ub (qc h.t.blk))
variable{lo:Nat}
theorem TA.rstep(h:TA U ts xs lo tb sb f who L S w)(r:RStep U lo tb f who L S w L' S' w'):TA U ts xs lo tb sb f who L' S' w':=
 ⟨r.at',h.s.rstep h.t r,h.r.rstep h.t r,Ue h.sb r.fr.size,h.tn⟩
theorem TA.below(h:TA U ts xs lo tb sb f who L S w)(hb:Below w.heap.size w w'):TA U ts xs lo tb sb f who L S w':=h.rstep (RStep.below h.t hb)
variable{X:Nat->Prop}
theorem TiesAt.cxkeep(h:TiesAt U w lo tb L S f who)(hf:Frm X w w')(hx: ∀k,k<w.heap.size->X k-> ∃cur,w.heap[k]?=some (.cells cur 136 (0,0))):TiesAt U w' lo tb L S f who:=by
 have kC: ∀(k:Nat) (cur:Array Value) (t:TypeId),w.heap[k]?=some (.cells cur t (0,0))->t≠136->w'.heap[k]?=w.heap[k]?:=by
  intro k cur t hk t1;refine hf.block k (qc hk) λh0=>?_;obtain⟨cur',h'⟩:=hx k (qc hk) h0;rw[hk]at h';injection h' with h';injection h' with _ h';exact t1 h'
 have kM: ∀(k:Nat) (Gd:Value->Prop) (m:List (Value×Value)),zt w Gd k m->w'.heap[k]?=w.heap[k]?:=λk Gd m hk=>hf.block k hk.lt λh0=>by
  obtain⟨cur',h'⟩:=hx k hk.lt h0;obtain⟨es,c,q,-⟩:=hk;rw[q]at h';injection h' with h';cases h'
 have kN: ∀{α:Type} {enc:α->Value} {cl:α->List Value} {Gd:Value->Prop} {tN tE:TypeId} {size nb mb:Nat} {sv:Value} {vs:List α},NumAt enc cl Gd tN tE size w lo nb mb sv vs->tN≠136->tE≠136->NumAt enc cl Gd tN tE size w' lo nb mb sv vs:=by
  intro α enc cl Gd tN tE size nb mb sv vs hh h1 h2;refine⟨(kC nb _ _ hh.blk h1).trans hh.blk,hh.map.move (kM mb _ _ hh.map),qF hh.row λg hg=>?_,hh.nd,hh.lob,hh.lom⟩;obtain⟨-,-,cur,q⟩:=qf hh.row g hg;exact kC g cur _ q h2
 obtain⟨ms,h4,h6⟩:=h.sub;obtain⟨mw,h3,h5⟩:=h.wh;exact⟨(kC tb _ _ h.blk (by decide)).trans h.blk,kN h.th (by decide) (by decide),kN h.rl (by decide) (by decide),kN h.us (by decide) (by decide),⟨ms,h4.move (kM _ _ _ h4.map),h6⟩,⟨mw,h3.move (kM _ _ _ h3),h5⟩,h.ok,h.maps,h.ntu,h.stu,h.lob,h.los,h.low⟩
theorem TA.cxkeep(h:TA U ts xs lo tb sb f who L S w)(hf:Frm X w w')(hx: ∀k,k<w.heap.size->X k->sb<=k/\ ∃cur,w.heap[k]?=some (.cells cur 136 (0,0))):TA U ts xs lo tb sb f who L S w':=by
 refine⟨h.t.cxkeep hf λk hk e=>(hx k hk e).2,h.s.keep hf λk hk e=>?_,?_,Ue h.sb hf.size,h.tn⟩
 ·have:=(hx k (Ug hk h.sb) e).1;omega
 ·refine h.r.move (λGd m hm=>hf.block _ hm.lt λe=>?_) λg cur hg=>hf.block g (qc hg) λe=>?_
  ·obtain⟨-,cur',h'⟩:=hx _ hm.lt e
   obtain⟨es,c,q,-⟩:=hm;rw[q]at h';injection h' with h';cases h'
  ·obtain⟨-,cur',h'⟩:=hx g (qc hg) e
   rw[hg]at h';injection h' with h';injection h' with _ h';revert h';decide
theorem RStep.after(h:RStep U lo tb f who L S w L' S' w')(ht:TiesAt U w'' lo tb L' S' f who)(hf:Frm X w' w'')(hx: ∀k,k<w.heap.size-> ¬X k):RStep U lo tb f who L S w L' S' w'':=
 ⟨ht,h.fr.trans hf (λj hj e=>absurd e (hx j hj)),h.own,h.loc,h.ths,h.uss,h.pre⟩
theorem RStep.kind(h0:TiesAt U w lo tb L S f who)(r:RStep U lo tb f who L S w L' S' w'){cur:Array Value}(hk:w.heap[k]?=some (.cells cur t (0,0)))(h1:t≠223)(h2:t≠9):w'.heap[k]?=w.heap[k]?:=
 r.fr.block k (qc hk) λhx=>by
  rcases h0.rl.kind hx hk with e|e
  ·exact h1 e
  ·exact h2 e
theorem RStep.tie(r:RStep U lo tb f who L S w L' S' w'):iD L'=iD L:=by
 rw[r.loc];rfl
theorem WayAt.rstep{In:Nat->Prop}{t:WayT}(h:WayAt w In t v)(h0:TiesAt U w lo tb L S f who)(r:RStep U lo tb f who L S w L' S' w'):WayAt w' In t v:=
 h.move2 λg cur hg hc=>⟨hg,r.kind h0 hc (by decide) (by decide)⟩
theorem Gv(S:TS)(l:List Nod): ∀z∈l.map (cxN S),z.oneCell'=true:=by
 intro z hz;obtain⟨y,-,rfl⟩:=OY.1 hz
 rfl
theorem tD(hl:S.le S'){l:List Nod}(hk: ∀y∈l,Kn S y):l.map (cxN S')=l.map (cxN S):=List.map_congr_left λy hy=>yI hl (hk y hy)
theorem TA.subs(h:TA U ts xs lo tb sb f who L S w)(kx:Kn S x):
  ∃v,(Instr.lookup 179 (.map (some L.ms)) (cxN S x) false).run prog w=.ok v w/\yz w v ((qy ts x).map (cxN S))/\(qy ts x=[]->v=.slice none 0 0\/ ∃g c,v=.slice (some ⟨g,0,none⟩) 0 c)/\(∀g n c,v=.slice (some ⟨g,0,none⟩) n c->g<sb/\ ∃cur,w.heap[g]?=some (.cells cur 136 (0,0))):=by
 obtain⟨m,h1,h2⟩:=h.t.sub;have hl:=(uV da underlying179 h1.map (h.t.ok.good kx) (zeroValue170 w)).2;rw[h2.2.1 x kx]at hl;cases hf:f x with
 |none=>
  rw[hf]at hl;rw[h.s.no x hf];exact⟨_,hl,yz.nil _ _ _,λ_=>Or.inl rfl,λg n c e=>by cases e⟩
 |some v=>
  rw[hf]at hl;obtain⟨r1,r2⟩:=h.s.row x v hf;refine⟨v,hl,vw (by rw[OM];exact r1),λe=>?_,λg n c e=>?_⟩
  ·rcases r1.2 with⟨rfl,-⟩|⟨g,cap,cur,rfl,-⟩
   ·exact Or.inl rfl
   ·right;rw[e];exact⟨g,cap,rfl⟩
  ·have hg:v.ownBlock=some g:=by rw[e];rfl
   obtain⟨-,-,cur,q⟩:=qf r1 g hg;exact⟨r2 g hg,cur,q⟩
