import Derived.Test.YtalmoiogbdahcaaGreatANumB
import Derived.Test.YtalmoiogbdahcaaGreatAEntA
open Go.Proofs.Tryz
namespace Go.Proofs.YtalmoiogbdahcaaGreat
set_option maxRecDepth 100000
set_option maxHeartbeats 8000000
open Go.RowKit
abbrev xe{α:Type}[DecidableEq α](l:List α)(a:α):Nat:=l.idxOf a
variable{α:Type}
theorem iS[DecidableEq α]{l:List α}{a:α}(h:a∈l):xe l a<l.length:=List.idxOf_lt_length_iff.2 h
structure TS where
 ths:List Nod
 rels:List BA
 uss:List Nod
def Kn(S:TS)(x:Nod):Prop:=x.th∈S.ths/\x.r∈S.rels
def cxN(S:TS)(x:Nod):Value:=cxV (xe S.ths x.th) (xe S.rels x.r)
structure TS.le(S S':TS):Prop where
 ths:S.ths<+:S'.ths
 rels:S.rels<+:S'.rels
theorem TS.le.refl(S:TS):S.le S:=⟨List.prefix_refl _,List.prefix_refl _⟩
theorem TS.le.trans{A B C:TS}(h:A.le B)(k:B.le C):A.le C:=⟨h.ths.trans k.ths,h.rels.trans k.rels⟩
theorem lR[DecidableEq α]{l l':List α}(h:l<+:l'){a:α}(ha:a∈l):xe l' a=xe l a:=by
 obtain⟨t,rfl⟩:=h;unfold xe;rw[List.idxOf_append,if_pos ha]
variable{S S':TS}{x:Nod}
theorem Kn.le(h:S.le S')(k:Kn S x):Kn S' x:=⟨h.ths.subset k.1,h.rels.subset k.2⟩
theorem yI(h:S.le S')(k:Kn S x):cxN S' x=cxN S x:=by
 unfold cxN;rw[lR h.ths k.1,lR h.rels k.2]
theorem rT[DecidableEq α]{l:List α}{a b:α}(ha:a∈l)(hb:b∈l)(h:xe l a=xe l b):a=b:=by
 have h1:=List.getElem_idxOf (List.idxOf_lt_length_iff.2 ha);have h2:=List.getElem_idxOf (List.idxOf_lt_length_iff.2 hb);rw[←h1,←h2]
 congr 1
variable{y:Nod}
theorem Gp(h1:x.th=y.th)(h2:x.r=y.r):x=y:=by
 obtain⟨a,b,c⟩:=x;obtain⟨d,e,f⟩:=y;unfold Nod.th at h1;simp at h1 h2;obtain⟨rfl,rfl⟩:=h1;subst h2;rfl
structure TS.Ok(U:List BA)(S:TS):Prop where
 tl:S.ths.length<=4000
 ul:U.length<=8000
 rn:S.rels.Nodup
 rU: ∀r∈S.rels,r∈U
 r0: ∃l,S.rels=qk::l
 tn: ∀x∈S.ths,x.r=qk
 un: ∀x∈S.uss,x.isTh=true
 Us: ∀r∈U,r.size<=maxLen
theorem xP[DecidableEq α]: ∀(l u:List α),l.Nodup->(∀a∈l,a∈u)->l.length<=u.length:=by
 intro l
 induction l with
 |nil=>intro u _ _;simp
 |cons a l ih=>
  intro u hn hs;rw[List.nodup_cons]at hn;have ha:a∈u:=hs a (by simp)
  have h1:=ih (u.erase a) hn.2 (λb hb=>(List.mem_erase_of_ne (by intro e;subst e;exact hn.1 hb)).2 (hs b (by simp[hb])))
  rw[List.length_erase_of_mem ha]at h1;have:0<u.length:=List.length_pos_of_mem ha;simp only[OL];omega
variable{U:List BA}
theorem TS.Ok.rl(h:S.Ok U):S.rels.length<=8000:=Ue (xP _ _ h.rn h.rU) h.ul
theorem TS.Ok.lt(h:S.Ok U)(k:Kn S x):xe S.ths x.th<8192/\xe S.rels x.r<8192:=by
 have h1:=iS k.1;have h2:=iS k.2;have:=h.tl;have:=h.rl;omega
theorem TS.Ok.good(h:S.Ok U)(k:Kn S x):CxG (cxN S x):=⟨_,_,(h.lt k).1,(h.lt k).2,rfl⟩
theorem TS.Ok.inj(h:S.Ok U)(kx:Kn S x)(ky:Kn S y)(e:cxN S x=cxN S y):x=y:=by
 obtain⟨e1,e2⟩:=QA (h.lt kx).1 (h.lt kx).2 (h.lt ky).1 (h.lt ky).2 e;exact Gp (rT kx.1 ky.1 e1) (rT kx.2 ky.2 e2)
structure TL where
 mb:Nat
 nt:Nat
 mt:Nat
 st:Value
 nr:Nat
 mr:Nat
 sr:Value
 nu:Nat
 mu:Nat
 su:Value
 ms:Nat
 mw:Nat
def iD(L:TL):List Value:=[.map (some L.mb),.pointer (some ⟨L.nt,0,none⟩),.pointer (some ⟨L.nr,0,none⟩),.pointer (some ⟨L.nu,0,none⟩),.map (some L.ms),.map (some L.mw)]
def mR(S:TS)(m:List (Value×Value)):Prop:= ∀p∈m,∃x,Kn S x/\p.1=cxN S x
def ae(S:TS)(m:List (Value×Value))(f:Nod->Option Value):Prop:=mR S m/\(∀x,Kn S x->getM m (cxN S x)=f x)/\ ∀x,¬Kn S x->f x=none
def Z7(S:TS)(m:List (Value×Value))(who:Nod->Nat):Prop:=mR S m/\(∀x,Kn S x->(getM m (cxN S x)).getD (.int .u64 0)=.int .u64 (who x))/\(∀x,¬Kn S x->who x=0)/\ ∀p∈m,∃c:Nat,p.2=.int .u64 c
variable{m:List (Value×Value)}
theorem mR.le(h:mR S m)(hl:S.le S'):mR S' m:=λp hp=>by
 obtain⟨x,k,e⟩:=h p hp;exact⟨x,k.le hl,by rw[yI hl k];exact e⟩
theorem mR.new(h:mR S m)(hl:S.le S')(ok:S'.Ok U)(kx:Kn S' x)(hx: ¬Kn S x):getM m (cxN S' x)=none:=by
 refine vY λp hp e=>?_;obtain⟨y,k,e2⟩:=h p hp;rw[e2,←yI hl k]at e;exact hx ((ok.inj (k.le hl) kx e)▸k)
variable{f:Nod->Option Value}
theorem ae.le(h:ae S m f)(hl:S.le S')(ok:S'.Ok U):ae S' m f:=by
 refine⟨h.1.le hl,λx kx=>?_,λx kx=>h.2.2 x λk=>kx (k.le hl)⟩;by_cases k:Kn S x
 ·rw[yI hl k];exact h.2.1 x k
 ·rw[h.1.new hl ok kx k,h.2.2 x k]
theorem Z7.le{f:Nod->Nat}(h:Z7 S m f)(hl:S.le S')(ok:S'.Ok U):Z7 S' m f:=by
 refine⟨h.1.le hl,λx kx=>?_,λx kx=>h.2.2.1 x λk=>kx (k.le hl),h.2.2.2⟩;by_cases k:Kn S x
 ·rw[yI hl k];exact h.2.1 x k
 ·rw[h.1.new hl ok kx k,h.2.2.1 x k];rfl
structure TiesAt(U:List BA)(w:World)(lo tb:Nat)(L:TL)(S:TS)(f:Nod->Option Value)(who:Nod->Nat):Prop where
 blk:w.heap[tb]?=some (.cells (iD L).toArray 182 (0,0))
 th:jQ w lo L.nt L.mt L.st S.ths
 rl:df Value.string w lo L.nr L.mr L.sr S.rels
 us:jQ w lo L.nu L.mu L.su S.uss
 sub: ∃m,yM w CxG L.ms m/\ae S m f
 wh: ∃m,zt w CxG L.mw m/\Z7 S m who
 ok:S.Ok U
 maps:[L.mb,L.mt,L.mr,L.mu,L.ms,L.mw].Nodup
 ntu:L.nt≠L.nu
 stu: ∀k,L.st.ownBlock=some k->L.su.ownBlock≠some k
 lob:lo<=tb
 los:lo<=L.ms
 low:lo<=L.mw
def mS(L:TL)(k:Nat):Prop:=ur L.nr L.mr L.sr k
structure SubAt(w:World)(lo sb:Nat)(S:TS)(ts:List (Nod×Nod))(f:Nod->Option Value):Prop where
 row: ∀x v,f x=some v->w.ownsRow lo 136 1 v (qy ts x).length ((qy ts x).map (cxN S))/\ ∀k,v.ownBlock=some k->k<sb
 no: ∀x,f x=none->qy ts x=[]
 kn: ∀t∈ts,Kn S t.1/\Kn S t.2
 apart: ∀x y v u k,f x=some v->f y=some u->v.ownBlock=some k->u.ownBlock=some k->x=y
variable{lo sb:Nat}{ts:List (Nod×Nod)}{w:World}
theorem SubAt.known(h:SubAt w lo sb S ts f)(hy:y∈qy ts x):Kn S y:=(h.kn _ (vu.1 hy)).2
theorem SubAt.le(h:SubAt w lo sb S ts f)(hl:S.le S'):SubAt w lo sb S' ts f:=by
 refine⟨λx v hv=>?_,h.no,λt ht=>⟨(h.kn t ht).1.le hl,(h.kn t ht).2.le hl⟩,h.apart⟩;have e:(qy ts x).map (cxN S')=(qy ts x).map (cxN S):=List.map_congr_left λy hy=>yI hl (h.known hy);rw[e];exact h.row x v hv
variable{w':World}
theorem SubAt.keep(h:SubAt w lo sb S ts f){X:Nat->Prop}(hf:Frm X w w')(hx: ∀k,k<sb->X k-> ∀cur:Array Value,w.heap[k]?≠some (.cells cur 136 (0,0))):SubAt w' lo sb S ts f:=by
 refine⟨λx v hv=>⟨qF (h.row x v hv).1 λg hg=>?_,(h.row x v hv).2⟩,h.no,h.kn,h.apart⟩;obtain⟨h1,-,cur,h2⟩:=qf (h.row x v hv).1 g hg;exact hf.block g h1 λe=>hx g ((h.row x v hv).2 g hg) e cur h2
theorem ij{a b c d e f:Nat}(h:[a,b,c,d,e,f].Nodup):(a≠b/\a≠c/\a≠d/\a≠e/\a≠f)/\(b≠c/\b≠d/\b≠e/\b≠f)/\(c≠d/\c≠e/\c≠f)/\(d≠e/\d≠f)/\e≠f:=by
 simp only[List.nodup_cons,OT,O4,or_false,not_or,not_false_eq_true,List.nodup_nil,and_true]at h;obtain⟨⟨h1,h2,h3,h4,h5⟩,⟨h6,h7,h8,h9⟩,⟨ha,h0,hd⟩,⟨hb,he⟩,hc⟩:=h;exact⟨⟨h1,h2,h3,h4,h5⟩,⟨h6,h7,h8,h9⟩,⟨ha,h0,hd⟩,⟨hb,he⟩,hc⟩
structure RStep(U:List BA)(lo tb:Nat)(f:Nod->Option Value)(who:Nod->Nat)(L:TL)(S:TS)(w:World)(L':TL)(S':TS)(w':World):Prop where
 at':TiesAt U w' lo tb L' S' f who
 fr:Frm (mS L) w w'
 own: ∀k,L'.sr.ownBlock=some k->L.sr.ownBlock=some k\/w.heap.size<=k
 loc:L'={L with sr:=L'.sr}
 ths:S'.ths=S.ths
 uss:S'.uss=S.uss
 pre:S.rels<+:S'.rels
variable{L L':TL}{tb:Nat}{who:Nod->Nat}
theorem RStep.le(h:RStep U lo tb f who L S w L' S' w'):S.le S':=⟨by rw[h.ths];exact List.prefix_refl _,h.pre⟩
theorem RStep.trans{L'':TL}{S'':TS}{w'':World}(h:RStep U lo tb f who L S w L' S' w')(k:RStep U lo tb f who L' S' w' L'' S'' w''):RStep U lo tb f who L S w L'' S'' w'':=by
 refine⟨k.at',h.fr.trans k.fr ?_,?_,by rw[k.loc,h.loc],k.ths.trans h.ths,k.uss.trans h.uss,h.pre.trans k.pre⟩
 ·intro j hj hx
  rcases hx with e|e|e
  ·rw[h.loc]at e;exact Or.inl e
  ·rw[h.loc]at e;exact Or.inr (Or.inl e)
  ·rcases h.own j e with e|e
   ·exact Or.inr (Or.inr e)
   ·omega
 ·intro j hj
  rcases k.own j hj with e|e
  ·exact h.own j e
  ·exact Or.inr (Ue h.fr.size e)
theorem TiesAt.below(h:TiesAt U w lo tb L S f who)(hb:Below w.heap.size w w'):TiesAt U w' lo tb L S f who:=by
 have hf:Frm (λ_=>False) w w':=Frm.of_below hb;obtain⟨ms,h1,h3⟩:=h.sub;obtain⟨mw,h0,h2⟩:=h.wh;exact⟨(hb.block _ (qc h.blk)).trans h.blk,h.th.keep hf (λ_ _ e=>e),h.rl.keep hf (λ_ _ e=>e),h.us.keep hf (λ_ _ e=>e),⟨ms,h1.move (hb.block _ h1.lt),h3⟩,⟨mw,h0.move (hb.block _ h0.lt),h2⟩,h.ok,h.maps,h.ntu,h.stu,h.lob,h.los,h.low⟩
theorem RStep.below(h:TiesAt U w lo tb L S f who)(hb:Below w.heap.size w w'):RStep U lo tb f who L S w L S w':=
 ⟨h.below hb,Frm.of_below hb,λ_ hk=>Or.inl hk,rfl,rfl,rfl,List.prefix_refl _⟩
theorem SubAt.rstep(h:SubAt w lo sb S ts f)(h0:TiesAt U w lo tb L S f who)(r:RStep U lo tb f who L S w L' S' w'):SubAt w' lo sb S' ts f:=by
 refine(h.keep r.fr ?_).le r.le;intro k _ hx cur e;rcases h0.rl.kind hx e with e|e<;>revert e<;>decide
variable{r:BA}
theorem TiesAt.rel(h:TiesAt U w lo tb L S f who)(hr:r∈U){e:Ending}(hp:uj Value.string w lo L.nr L.mr L.sr S.rels r e w'):
  e=.returned (.int .i64 (xe (zz S.rels r) r:Nat))/\ ∃sr',RStep U lo tb f who L S w {L with sr:=sr'} {S with rels:=zz S.rels r} w':=by
 obtain⟨he,sr',hn,hf,ho⟩:=hp;refine⟨he,sr',⟨?_,hf,ho,rfl,rfl,rfl,vK _ _⟩⟩;obtain⟨⟨a1,a2,a3,a4,a5⟩,⟨b1,b2,b3,b4⟩,⟨c1,c2,c3⟩,⟨d1,d2⟩,e1⟩:=ij h.maps;have kC: ∀(k:Nat) (cur:Array Value) (t:TypeId),w.heap[k]?=some (.cells cur t (0,0))->t≠223->t≠9->w'.heap[k]?=w.heap[k]?:=by
  intro k cur t hk t1 t2;refine hf.block k (qc hk) λhx=>?_;rcases h.rl.kind hx hk with e|e
  ·exact t1 e
  ·exact t2 e
 have kM: ∀(k:Nat) (Gd:Value->Prop) (m:List (Value×Value)),zt w Gd k m->k≠L.mr->w'.heap[k]?=w.heap[k]?:=λk Gd m hk h0=>hf.block k hk.lt λhx=>h0 (h.rl.kindM hx hk);have kN: ∀{nb mb:Nat} {sv:Value} {vs:List Nod},jQ w lo nb mb sv vs->mb≠L.mr->jQ w' lo nb mb sv vs:=by
  intro nb mb sv vs hh h0;refine⟨(kC nb _ _ hh.blk (by decide) (by decide)).trans hh.blk,hh.map.move (kM mb _ _ hh.map h0),qF hh.row λg hg=>?_,hh.nd,hh.lob,hh.lom⟩
  obtain⟨-,-,cur,q⟩:=qf hh.row g hg;exact kC g cur _ q (by decide) (by decide)
 have h1:TS.Ok U {S with rels:=zz S.rels r}:=by
  refine⟨h.ok.tl,h.ok.ul,kO h.ok.rn r,?_,?_,h.ok.tn,h.ok.un,h.ok.Us⟩
  ·intro q hq
   rcases yJ.1 hq with hq|hq
   ·exact h.ok.rU q hq
   ·rw[hq];exact hr
  ·obtain⟨l,hl⟩:=h.ok.r0
   obtain⟨t,ht⟩:=vK S.rels r;exact⟨l++t,by show zz S.rels r=_;rw[←ht,hl];rfl⟩
 have h4:TS.le S {S with rels:=zz S.rels r}:=⟨List.prefix_refl _,vK _ _⟩;obtain⟨ms,h3,h6⟩:=h.sub;obtain⟨mw,h2,h5⟩:=h.wh;exact⟨(kC tb _ _ h.blk (by decide) (by decide)).trans h.blk,kN h.th b1,hn,kN h.us (Ne.symm c1),⟨ms,h3.move (kM _ _ _ h3.map (Ne.symm c2)),h6.le h4 h1⟩,⟨mw,h2.move (kM _ _ _ h2 (Ne.symm c3)),h5.le h4 h1⟩,h1,h.maps,h.ntu,h.stu,h.lob,h.los,h.low⟩
theorem Gs:fb 0=0:=by decide +kernel
theorem Z8(i j:Nat)(hj:j<8192)(w:World):Calls prog 181 #[.complex .f64 (fb i) (fb j)] w λe w'=>e=.returned (.bool (decide (j=0)))/\w'=w:=by
 have ho:(FloatKind.f64.format.order (fb j) 0==some .eq)=decide (j=0):=by
  have:=bD hj (b:=0) (by omega)
  rw[Gs]at this;exact this
 generalize decide (j=0)=q at *;go_enter func181,ntmps181;go_wp2;go_ret;exact⟨rfl,rfl⟩
theorem Kn.zero(ok:S.Ok U)(k:Kn S x):decide (xe S.rels x.r=0)=x.isTh:=by
 obtain⟨l,hl⟩:=ok.r0;unfold Nod.isTh;by_cases h:x.r=qk
 ·rw[h,hl];simp[xe]
 ·rw[Uo h,Uo]
  intro e;refine h (rT k.2 (by rw[hl];simp) ?_)
  rw[e,hl];simp[xe]
theorem dS(ok:S.Ok U)(k:Kn S x)(w:World):Calls prog 181 #[cxN S x] w λe w'=>e=.returned (.bool x.isTh)/\w'=w:=by
 rw[←k.zero ok];exact Z8 _ _ (ok.lt k).2 w
theorem gN(h:TiesAt U w lo tb L S f who)(hx:x.th∈S.ths)(hr:r∈U)(q:Nat):
  Calls prog 228 #[.pointer (some ⟨tb,0,none⟩),.complex .f64 (fb (xe S.ths x.th)) q,.string r] w λe w'=> ∃L' S',e=.returned (cxN S' (x.to r))/\Kn S' (x.to r)/\RStep U lo tb f who L S w L' S' w':=by
 have h4:lo<=w.heap.size:=Ue h.lob (Ub (qc h.blk));have HN:Hid (Calls prog 138 #[.pointer (some ⟨L.nr,0,none⟩),.string r] w (uj Value.string w lo L.nr L.mr L.sr S.rels r)):=
  oX Value.string r r rfl h.rl ⟨r,rfl,h.ok.Us r hr⟩ (λa _ e=>by injection e) h4 (by have:=h.ok.rl;omega)
 have c2:=qa h.blk (j:=2) rfl;have HP:Hid (∀e w',uj Value.string w lo L.nr L.mr L.sr S.rels r e w'->e=.returned (.int .i64 (xe (zz S.rels r) r:Nat))/\ ∃L' S',(Value.complex .f64 (fb (xe S.ths x.th)) (fb (xe (zz S.rels r) r)))=cxN S' (x.to r)/\Kn S' (x.to r)/\RStep U lo tb f who L S w L' S' w'):=by
  intro e w' hp;obtain⟨he,sr',hs⟩:=h.rel hr hp;exact⟨he,_,{S with rels:=zz S.rels r},rfl,⟨hx,yJ.2 (Or.inr rfl)⟩,hs⟩
 clear h;generalize xe (zz S.rels r) r=n at *;generalize fb (xe S.ths x.th)=p at *;go_enter func228,ntmps228
 go_wp2_with(go_at_call 138;refine HN.out.mono ?_;rintro e w1 hp;have h0:=HP.out e w1 hp;clear hp;obtain⟨rfl,h5⟩:=h0)
 go_ret;obtain⟨L',S',h1,h2,h3⟩:=h5;exact⟨L',S',congrArg Ending.returned h1,h2,h3⟩
