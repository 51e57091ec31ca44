import Derived.Test.YtalmoiogbdahcaaGreatAKrlC
open Go.Proofs.Tryz
namespace Go.Proofs.YtalmoiogbdahcaaGreat
set_option maxRecDepth 100000
set_option maxHeartbeats 8000000
open Go.RowKit Go.Shelf
variable{B k wb:Nat}{D:Dk}{w:World}
theorem QsAt.off{b:Nat}{r:Rg}{gs:List Gq}{qs:List Ql}(h:QsAt B b r D gs qs wb w)(hS:gs.length=D.rs.length){cs:List Value}{t:TypeId}(hk:w.heap[k]?=some (.cells cs.toArray t (0,0)))(h1:t≠3)(h2:t≠211): ¬QF qs wb k:=by
 rintro(e|⟨q,hq,e⟩)
 ·exact qV hk h.wrow h1 e
 ·obtain⟨j,hj⟩:=OX.1 hq
  have h0:=(OE.1 hj).1;obtain⟨x,hx⟩: ∃x,D.rs[j]?=some x:=⟨_,OC (by rw[←h.len];exact h0)⟩
  obtain⟨g,hg⟩: ∃g,gs[j]?=some g:=⟨_,OC (by rw[hS,←h.len];exact h0)⟩
  exact qV hk (h.at' j q x g hj hx hg).1 h2 e
variable{Q':Nat->Prop}{V:Int}{g':Pg}{p:PA}{w1 w2:World}
theorem HalfA.same{D':Dk}(h:HalfA B V p g' D' Q' w w1){r':Rg}(hf:Frm (λk=>k=p.rb\/QF p.ql p.wb k) w1 w2)(hQ:QsAt B p.rb r' D' p.gs p.ql p.wb w2)(hS:Sim p.xs D' p.gs)(e1:r'.rulesV=p.r.rulesV)(e2:r'.nowV=p.r.nowV)(e6:r'.reqV=p.r.reqV)(e3:g'.cl=r'.closed)(e4:g'.ver=r'.version)(e5:g'.ver<=V)(hB:B<=w.heap.size):PaP B V p w w2:=by
 have m:=h.old.mem;have h0: ∀{k:Nat} {cs:List Value} {t:TypeId},w1.heap[k]?=some (.cells cs.toArray t (0,0))->t≠3->t≠211->t≠124->w2.heap[k]?=w1.heap[k]?:=by
  intro k cs t hk n1 n2 n3;refine hf.block k (qc hk) ?_;rintro(e|e)
  ·exact qV hk h.doc.qs.rg n3 e
  ·exact h.doc.qs.off h.old.sim.len hk n1 n2 e
 refine h.full (hf.mono λk _ e=>?_) hQ hS e1 e2 e3 e4 e5 (λq hq=>⟨Or.inl (m.ql q hq).1,λk hk=>Or.inl ((m.ql q hq).2 k hk)⟩) (λk hk=>Or.inl (m.rq k (by rw[←e6];exact hk))) (h0 h.doc.pair (by decide) (by decide) (by decide)) (λk hk=>?_) (λk hk=>?_) hB
 ·rcases e with e|e|⟨q,hq,e⟩
  ·rw[e];exact m.rb
  ·rw[e];exact m.wb
  ·rw[e];exact(m.ql q hq).1
 ·obtain⟨-,-,cur,e⟩:=qf h.doc.rules k hk
  rw[←Oo (xs:=cur)]at e;exact h0 e (by decide) (by decide) (by decide)
 ·obtain⟨-,cur,e⟩:=zG h.doc.nv k hk
  exact h0 e (by decide) (by decide) (by decide)
theorem HalfA.stay(h:HalfA B V p g' p.D Q' w w1)(hb:Below w1.heap.size w1 w2)(e3:g'.cl=p.g.cl)(e4:g'.ver=p.g.ver)(hB:B<=w.heap.size):PaP B V p w w2:=by
 have h2:=h.below hb;exact h2.same (r':=p.r) (Frm.refl _ _) h2.doc.qs h.old.sim rfl rfl rfl (e3.trans h.old.cl) (e4.trans h.old.ver) (by rw[e4];exact h.old.verV) hB
theorem Xx(h:PairA B V p w)(hB:B<=w.heap.size)(id:Int):
  Calls prog 30 #[.pointer (some ⟨p.gb,0,none⟩),.int .i64 id] w λe w1=> ∃o,e=.returned (.bool o)/\Hid (Frm (λk=>p.Q k\/k=p.gb) w w1)/\
  Hid (∀w2,Below w1.heap.size w1 w2->Calls prog 126 #[.pointer (some ⟨p.rb,0,none⟩),.int .i64 id] w2 λe w3=>e=.returned (.bool o)/\PaP B V p w w3):=by
 refine(wK h.kd id).mono ?_;rintro e w1 ⟨rfl,ho⟩;obtain⟨Q',D',rfl,hh⟩:=h.half ho;refine⟨_,rfl,hh.fr,λw2 hb=>?_⟩
 ·have h2:=hh.below hb
  refine(gZ h2.doc.qs h.sim id).mono ?_;rintro e w3 ⟨rfl,hf,-,hQ⟩;exact⟨rfl,h2.same (hf.mono λ_ _ e=>Or.inr e) hQ (h.sim.cancel id) rfl rfl rfl h.cl h.ver h.verV hB⟩
theorem Y7(h:PairA B V p w)(hB:B<=w.heap.size):
  Calls prog 32 #[.pointer (some ⟨p.gb,0,none⟩)] w λe w1=>e=.returned (.tuple #[])/\Hid (Frm (λk=>p.Q k\/k=p.gb) w w1)/\
  Hid (∀w2,Below w1.heap.size w1 w2->Calls prog 128 #[.pointer (some ⟨p.rb,0,none⟩)] w2 λe w3=>e=.returned (.tuple #[])/\PaP B V p w w3):=by
 refine(ZF h.kd).mono ?_;rintro e w1 ⟨rfl,ho⟩;obtain⟨Q',D',rfl,hh⟩:=h.half ho;refine⟨rfl,hh.fr,λw2 hb=>?_⟩;have h2:=hh.below hb;refine(nU h2.doc.qs h.sim).mono ?_;rintro e w3 ⟨rfl,hf,-,hQ⟩;exact⟨rfl,h2.same hf hQ (h.sim.cancels _) rfl rfl rfl rfl h.ver h.verV hB⟩
theorem KJ(h:PairA B V p w)(hB:B<=w.heap.size):
  Calls prog 31 #[.pointer (some ⟨p.gb,0,none⟩)] w λe w1=>e=.returned (.tuple #[])/\Hid (Frm (λk=>p.Q k\/k=p.gb) w w1)/\
  Hid (∀w2,Below w1.heap.size w1 w2->Calls prog 125 #[.pointer (some ⟨p.rb,0,none⟩)] w2 λe w3=>e=.returned (.tuple #[])/\PaP B V p w w3):=by
 have h0:=h.cl;cases hc:p.g.cl with
 |true=>
  refine(b7 h.kd hc).mono ?_;rintro e w1 ⟨rfl,ho⟩;obtain⟨Q',D',rfl,hh⟩:=h.half ho;refine⟨rfl,hh.fr,λw2 hb=>?_⟩;have h2:=hh.below hb;refine(rh h2.doc.qs.rg (by rw[←h0];exact hc)).mono ?_
  rintro e w3 ⟨rfl,h1⟩;subst w3;exact⟨rfl,h2.stay (Ou _ _) rfl rfl hB⟩
 |false=>
  obtain⟨db,tv,wb,ls,-,hd⟩:=h.kd.dk;refine(JH h.kd hc).mono ?_;rintro e w1 ⟨rfl,ho⟩;obtain⟨Q',D',rfl,hh⟩:=h.half ho;refine⟨rfl,hh.fr,λw2 hb=>?_⟩;have h2:=hh.below hb;refine(we h2.doc.qs h.sim (by rw[←h0];exact hc) hd.ok.c0 hd.ok.c9).mono ?_
  rintro e w3 ⟨rfl,hf,-,hQ⟩;exact⟨rfl,h2.same hf hQ h.sim.tick rfl rfl rfl h.cl h.ver h.verV hB⟩
theorem KK(HW:Hid xh)(h:PairA B V p w)(hB:B<=w.heap.size)(i:Int):
  Calls prog 28 #[.pointer (some ⟨p.gb,0,none⟩),.int .i64 i] w λe w1=> ∃o:Int,e=.returned (.int .i64 o)/\Hid (Frm (λk=>p.Q k\/k=p.gb) w w1)/\
  Hid (∀w2,Below w1.heap.size w1 w2->Calls prog 124 #[.pointer (some ⟨p.rb,0,none⟩),.int .i64 i] w2 λe w3=>e=.returned (.int .i64 o)/\PaP B V p w w3):=by
 have h0:=h.cl;cases hc:p.g.cl with
 |true=>
  refine(bX h.kd hc i).mono ?_;rintro e w1 ⟨rfl,ho⟩;obtain⟨Q',D',rfl,hh⟩:=h.half ho;refine⟨_,rfl,hh.fr,λw2 hb=>?_⟩;have h2:=hh.below hb;refine(rf h2.doc.qs.rg (by rw[←h0];exact hc) i).mono ?_
  rintro e w3 ⟨rfl,h1⟩;subst w3;exact⟨rfl,h2.stay (Ou _ _) rfl rfl hB⟩
 |false=>
  by_cases hi:i<0\/(p.D.wk.length:Int)<=i
  ·refine(X5 h.kd hc hi).mono ?_
   rintro e w1 ⟨rfl,ho⟩;obtain⟨Q',D',rfl,hh⟩:=h.half ho;refine⟨_,rfl,hh.fr,λw2 hb=>?_⟩;have h2:=hh.below hb;refine(eM h2.doc.qs (by rw[←h0];exact hc) (i:=i) (by omega)).mono ?_
   rintro e w3 ⟨rfl,h1⟩;subst w3;exact⟨rfl,h2.stay (Ou _ _) rfl rfl hB⟩
  ·obtain⟨j,rfl⟩: ∃j:Nat,i=j:=⟨i.toNat,by omega⟩
   have hj:j<p.D.wk.length:=by omega
   refine(JG HW h.kd hc hj).mono ?_;rintro e w1 ⟨rfl,ho⟩;obtain⟨Q',D',hd,hh⟩:=h.half ho;refine⟨_,rfl,hh.fr,λw2 hb=>?_⟩;have h2:=hh.below hb;have key:Calls prog 124 #[.pointer (some ⟨p.rb,0,none⟩),.int .i64 j] w2 λe w3=>e=.returned (.int .i64 0)/\yQ B p.rb p.r D' p.gs p.ql p.wb w2 w3:=by
    obtain⟨o,ho⟩: ∃o,p.D.wk[j]?=some o:=⟨_,OC hj⟩;cases o with
    |none=>exact nS h2.doc.qs h.sim (by rw[←h0];exact hc) ho hd
    |some m=>exact nR h2.doc.qs h.sim (by rw[←h0];exact hc) ho hd
   refine key.mono ?_;rintro e w3 ⟨rfl,hf,-,hQ⟩;exact⟨rfl,h2.same (hf.mono λ_ _ e=>Or.inr e) hQ (h.sim.step hd) rfl rfl rfl h.cl h.ver h.verV hB⟩
theorem KL(HW:Hid uL)(h:PairA B V p w)(id:Int):
  Calls prog 29 #[.pointer (some ⟨p.gb,0,none⟩),.int .i64 id] w λe w1=> ∃(is st:Int) (al:Bool) (us:List BA) (o:Option Addr) (c:Nat),e=.returned (.agg #[.int .i64 is,.int .i64 st,.bool al,.slice o us.length c])/\us.length<=50/\Hid (w1.ownsRow w.heap.size 9 1 (.slice o us.length c) us.length (qg us))/\Hid (Below w.heap.size w w1)/\
  Hid (∀w2,Below w1.heap.size w1 w2->Calls prog 174 #[.pointer (some ⟨p.rb,0,none⟩),.int .i64 id] w2 λe w3=> ∃o2 c2,e=.returned (.agg #[.int .i64 is,.int .i64 st,.bool al,.slice o2 us.length c2])/\qE w3 (.slice o2 us.length c2) us/\Below w2.heap.size w2 w3):=by
 refine(wO h.kd id).mono ?_;rintro e w1 ⟨o,c,rfl,h7,h0⟩;have h4:(uA p.D id).us.length<=50:=by
  unfold uA;split
  ·cases hx:p.D.rs[id.toNat-1]? with
   |none=>exact Um _
   |some x=>
    obtain⟨db,tv,wk,ls,-,hd⟩:=h.kd.dk;obtain⟨l,r,hl,hr,hR⟩:=hd.get (OE.1 hx).1;rw[hx]at hr;injection hr with hr;subst hr;exact hR.ul
  ·exact Um _
 refine⟨_,_,_,_,o,c,rfl,h4,h7,h0,λw2 h8=>?_⟩;have h2:=(h.below h0).below h8;have h6:vL w2 p.r.rulesV (qh p.xs):=jr h2.doc.rules;have key:Calls prog 174 #[.pointer (some ⟨p.rb,0,none⟩),.int .i64 id] w2 (il (uA p.D id) w2):=by
  cases hh:vU p.D id with
  |false=>exact nV h2.doc.qs hh
  |true=>
   obtain⟨j,rfl,hj⟩:=Qr hh;have hx:p.D.rs[j]?=some p.D.rs[j]:=OC hj;have e:uA p.D ((j:Int)+1)=p.D.rs[j]:=by
    unfold uA;rw[hh,if_pos rfl];have e:((j:Int)+1).toNat-1=j:=by omega
    rw[e,hx];rfl
   rw[e];by_cases h3:(p.D.rs[j]).is=3
   ·exact nW HW h2.doc.qs h6 h.sim hx h3
   ·exact eN h2.doc.qs h.sim hx h3
 refine key.mono ?_;rintro e w3 ⟨o2,c2,rfl,h5,h1⟩;exact⟨o2,c2,rfl,h5,h1⟩
theorem PairA.docAt(h:PairA B V p w):DocOk p.xs p.now/\DocAt p.xs p.now p.rb p.r p.r.nowV w:=⟨h.kd.doc,h.doc.qs.rg,jr h.doc.rules,h.doc.nv.strs⟩
theorem DocS.docAt(h:DocS B p w):DocAt p.xs p.now p.rb p.r p.r.nowV w:=⟨h.qs.rg,jr h.rules,h.nv.strs⟩
variable{s:BA}{xs:List BA}
theorem ri{nd th:BA}{c:Bool}{er:Int}(h:AskC xs s nd th c er):er=zS xs s:=by
 cases h with
 |none h1=>exact(if_pos h1).symm
 |free c h1 h2 h3=>unfold zS;rw[h1,h3];rfl
 |some t c k n r h1 h2 h3 nm h4 h5=>unfold zS;rw[h1,h3];rfl
theorem Xy(HN:Hid xS)(HR:Hid jC)(h:PairA B V p w)(hB:B<=w.heap.size)(s:BA)(hs:s.size<=maxLen)(bud til:Int):
  Calls prog 27 #[.pointer (some ⟨p.gb,0,none⟩),.string s,.int .i64 bud,.int .i64 til] w λe w1=> ∃n o:Int,e=.returned (.tuple #[.int .i64 n,.int .i64 o])/\Hid (Frm (λk=>p.Q k\/k=p.gb) w w1)/\
  Hid (∀w2,Below w1.heap.size w1 w2->Calls prog 123 #[.pointer (some ⟨p.rb,0,none⟩),.string s,.int .i64 bud,.int .i64 til] w2 λe w3=>e=.returned (.tuple #[.int .i64 n,.int .i64 o])/\PaP B V p w w3):=by
 have h8:=h.cl;cases hc:p.g.cl with
 |true=>
  refine(rI h.kd hc s bud til).mono ?_;rintro e w1 ⟨rfl,ho⟩;obtain⟨Q',D',rfl,hh⟩:=h.half ho;refine⟨_,_,rfl,hh.fr,λw2 hb=>?_⟩;have h2:=hh.below hb;refine(mJ h2.doc.qs.rg (by rw[←h8];exact hc) s bud til).mono ?_
  rintro e w3 ⟨rfl,hj⟩;subst w3;exact⟨rfl,h2.stay (Ou _ _) rfl rfl hB⟩
 |false=>
  have h5:p.r.closed=false:=by rw[←h8];exact hc
  cases ha:oO bud til with
  |true=>
   have hw:=bY ha;refine(wM h.kd hc s (bud:=bud) (til:=til) (by omega)).mono ?_
   rintro e w1 ⟨rfl,ho⟩;obtain⟨Q',D',rfl,hh⟩:=h.half ho;refine⟨_,_,rfl,hh.fr,λw2 hb=>?_⟩;have h2:=hh.below hb;refine(nf h2.doc.qs.rg h5 s bud til ha).mono ?_;rintro e w3 ⟨rfl,hj⟩;subst w3;exact⟨rfl,h2.stay (Ou _ _) rfl rfl hB⟩
  |false=>
   obtain⟨a1,a2,a3,a4⟩:=rH ha;by_cases he:zS p.xs s=0
   ·cases hfu:y9 p.D with
    |true=>
     refine(b8 h.kd hc hs he (by omega) (by omega) (by omega) (by omega) hfu).mono ?_
     rintro e w1 ⟨rfl,ho⟩;obtain⟨Q',D',rfl,hh⟩:=h.half ho;refine⟨_,_,rfl,hh.fr,λw2 hb=>?_⟩;have h2:=hh.below hb;obtain⟨nd,th,c,er,hA,h0⟩:=kY h.kd.doc h2.doc.docAt s hs;have h4:=ri hA;rw[he]at h4;cases hA with
     |none h1=>cases h4
     |free c h1 h2 h3=>cases h4
     |some t c k n r q1 q2 q3 nm q4 q5=>
      refine(ph HR h.kd.doc h2.doc.qs h2.doc.docAt h2.doc.nv h.sim (Ue hB h2.fr.size) h5 s bud til ha q2 nm q4 h0).mono ?_;rintro e w3 (⟨-,rfl,h6⟩|⟨hf,-⟩)
      ·exact⟨rfl,h2.stay h6 rfl rfl hB⟩
      ·rw[hfu]at hf;cases hf
    |false=>
     refine(ZG HN h.kd hc hs he (by omega) (by omega) (by omega) (by omega) hfu).mono ?_
     rintro e w1 ⟨rfl,ho⟩;obtain⟨Q',D',rfl,hh⟩:=h.half ho;refine⟨_,_,rfl,hh.fr,λw2 hb=>?_⟩;have h2:=hh.below hb;obtain⟨nd,th,c,er,hA,h0⟩:=kY h.kd.doc h2.doc.docAt s hs;have h4:=ri hA;rw[he]at h4;cases hA with
     |none h1=>cases h4
     |free c h1 h2 h3=>cases h4
     |some t c k n r q1 q2 q3 nm q4 q5=>
      refine(ph HR h.kd.doc h2.doc.qs h2.doc.docAt h2.doc.nv h.sim (Ue hB h2.fr.size) h5 s bud til ha q2 nm q4 h0).mono ?_;rintro e w3 (⟨hf,-⟩|⟨-,rfl,m,hd,h9,v,qs',hQ,hg,hi⟩)
      ·rw[hfu]at hf;cases hf
      ·refine⟨rfl,?_⟩
       have mm:=h.mem;have h7: ∀{k:Nat} {cs:List Value} {t:TypeId},w2.heap[k]?=some (.cells cs.toArray t (0,0))->t≠212->t≠124->w3.heap[k]?=w2.heap[k]?:=by
        intro k cs t hk n1 n2;refine h9.block k (qc hk) ?_;rintro(e|e)
        ·exact qV hk h2.doc.qs.rg n2 e
        ·obtain⟨-,-,cur,e3⟩:=qf h2.doc.qs.row k e
         rw[←Oo (xs:=cur)]at e3;exact qV hk e3 n1 rfl
       refine h2.full (r':={p.r with reqV:=v}) (gs':=p.gs++[⟨uU p.now s bud til,txT (qj s),th,c,m⟩]) (ql':=qs') (h9.mono λk _ e=>?_) hQ (h.sim.take (g:=⟨uU p.now s bud til,txT (qj s),th,c,m⟩) hd) rfl rfl h.cl h.ver h.verV (λq hq=>?_) (λk hk=>?_) (h7 h2.doc.pair (by decide) (by decide)) (λk hk=>?_) (λk hk=>?_) hB
       ·rcases e with e|e
        ·rw[e];exact mm.rb
        ·exact mm.rq k e
       ·rcases hg q hq with e|⟨e1,e2⟩
        ·exact⟨Or.inl (mm.ql q e).1,λk hk=>Or.inl ((mm.ql q e).2 k hk)⟩
        ·exact⟨Or.inr e1,λk hk=>Or.inl (mm.nv k (by rw[←e2];exact hk))⟩
       ·rcases hi k hk with e|e
        ·exact Or.inl (mm.rq k e)
        ·exact Or.inr e
       ·obtain⟨-,-,cur,e⟩:=qf h2.doc.rules k hk
        rw[←Oo (xs:=cur)]at e;exact h7 e (by decide) (by decide)
       ·obtain⟨-,cur,e⟩:=zG h2.doc.nv k hk
        exact h7 e (by decide) (by decide)
   ·have key:=wN h.kd hc hs he (bud:=bud) (til:=til) (by omega) (by omega) (by omega) (by omega)
    generalize hz:zS p.xs s=z at key he;refine key.mono ?_;rintro e w1 ⟨rfl,ho⟩;obtain⟨Q',D',rfl,hh⟩:=h.half ho;refine⟨_,_,rfl,hh.fr,λw2 hb=>?_⟩;have h2:=hh.below hb;obtain⟨nd,th,c,er,hA,h0⟩:=kY h.kd.doc h2.doc.docAt s hs;have h4:=ri hA;rw[hz]at h4;subst h4;refine(ng h2.doc.qs.rg h5 s bud til ha he h0).mono ?_;rintro e w3 ⟨rfl,h6⟩;exact⟨rfl,h2.stay h6 rfl rfl hB⟩
open Go.RowKit Go.Shelf Go.MuLone
variable{Q R:Nat->Prop}{g:Pg}{gb lo:Nat}{now:List BA}
theorem rj{m:List (Value×Value)}(h:KD w B gb g m lo xs now R Q D)(hc:g.cl=true)(v:Value):
  Calls prog 24 #[.pointer (some ⟨gb,0,none⟩),v] w (uI w gb g (.inl (0,7))):=by
 obtain⟨db,tv,wb,ls,h3,h4,h1,-,-,h5,h6⟩:=h.lockd;have k0:=qa h1 (j:=0) rfl;have z0:=qd h1 0;have HP:Hid (uI w gb g (.inl (0,7)) (.returned (.tuple #[.int .i64 0,.int .i64 0,.int .i64 7])) ((w.setCell ⟨gb,0,none⟩ (.int .i32 1)).setCell ⟨gb,0,none⟩ (.int .i32 0))):=by
  refine⟨zf (zf (xD _ _) _ _) _ _,rfl,?_⟩;have:=yV h1 0;obtain⟨lk,mb,tvg,ver,dk,cl⟩:=g;have h2:lk=0:=h.lk;subst h2;exact this
 have h0:=qa h.pg (j:=0) rfl;have f0:=qd h.pg 0;have c6:=qa h1 (j:=6) rfl;have h2:=h.lk;clear h h4 h1 h5 h6;obtain⟨lk,mb,tvg,ver,dk,cl⟩:=g;dsimp only at h2 h3;subst h2;subst h3;dsimp only at hc;subst hc;generalize uI w gb _ _=PP at *;go_enter_defers func24,ntmps24
 go_wp2_with(go_at_call 51;refine(lock_free Tryz.muLib ⟨gb,0,none⟩ _ h0 f0).mono ?_;rintro e w1 ⟨rfl,h7⟩;subst w1)
 refine leaves_cons (f:=52) (args:= #[.pointer (some ⟨gb,0,none⟩)]) (by simp) (by simp[go_sem]) ?_
 refine(unlock_deferred Tryz.muLib ⟨gb,0,none⟩ .returning _ k0 z0).mono ?_;rintro e u' w6 ⟨rfl,rfl,rfl⟩;exact⟨.tuple #[.int .i64 0,.int .i64 0,.int .i64 7],by simp[results,results24,go_sem],HP.out⟩
theorem mz(b:Nat)(g:Rg)(v:Value)(w:World)(hg:xX w b g)(h0:g.closed=true):
  Calls prog 35 #[.pointer (some ⟨b,0,none⟩),v] w λe w'=>e=.returned (.tuple #[.int .i64 0,.int .i64 0,.int .i64 7])/\w'=w:=by
 have h4:w.cell? ⟨b,4,none⟩=some (.bool g.closed):=qa hg rfl;rw[h0]at h4;go_enter func35,ntmps35;go_wp2;go_ret3;exact⟨rfl,rfl⟩
def wrC(cl:Bool)(rs:List (BA×BA))(now xs:List BA):Sum (Nat×Int) (List BA):=if cl=true then .inl (0,7)else jN rs now xs
variable{v:Value}
theorem PairA.gw(h:PairA B V p w)(ht:XV w v xs p.gb)(hl:xs.length<=maxLen)(hb: ∀x∈xs,x.size<=140737488355328):
  Calls prog 24 #[.pointer (some ⟨p.gb,0,none⟩),v] w (uI w p.gb p.g (wrC p.g.cl (qh p.xs) p.now xs)):=by
 have k:=h.kd;cases hc:p.g.cl with
 |true=>exact rj k hc v
 |false=>
  show Calls _ _ _ w (uI w p.gb p.g (jN (qh p.xs) p.now xs))
  have h5:=rF k.tv k.pg (by decide)
  have h3:0<=p.g.ver/\p.g.ver<=4611686018427387904:=⟨k.ver0,k.verV⟩;obtain⟨h4,h0⟩:=k.ru.now;obtain⟨es,cl,h9,h7,ha,h6⟩:=h4;have hf: ∀s,faultG p.m s=xk (qh p.xs) s:=λs=>Zw h0 h6 k.okx s;rcases ht with⟨rfl,rfl⟩|⟨bb,off,cap,rfl,he,hd⟩
  ·exact wF p.gb p.g p.now (qh p.xs) w k.pg k.lk hc k.tv.strs k.nl h5 h3
  ·unfold jN
   split
   ·rename_i h8
    refine(bK p.gb p.g _ _ _ w k.pg k.lk hc h8 hl).mono ?_;rintro e w' ⟨rfl,h1,h2⟩;exact⟨h2,rfl,h1⟩
   ·exact bJ p.gb p.g p.m (qh p.xs) p.now xs bb off cap w k.pg k.lk hc h0.ways ⟨es,cl,h9,h7,ha,h6⟩ hf k.tv.strs k.sorted k.nl h5 hd he (by omega) hb h3
variable{w3:World}
theorem PairA.rw(h:PairA B V p w)(hd:DocS B p w3)(ht:GP w3 v xs)(hl:xs.length<=maxLen)(h4: ∀x∈xs,x.size<=140737488355328):
  Calls prog 35 #[.pointer (some ⟨p.rb,0,none⟩),v] w3 (uO w3 p.rb p.r (wrC p.g.cl (qh p.xs) p.now xs)):=by
 have k:=h.kd;have h3:=h.cl;cases hc:p.g.cl with
 |true=>
  refine(mz p.rb p.r v w3 hd.qs.rg (by rw[←h3];exact hc)).mono ?_
  rintro e w' ⟨rfl,rfl⟩;exact⟨rfl,Ou _ _⟩
 |false=>
  show Calls _ _ _ w3 (uO w3 p.rb p.r (jN (qh p.xs) p.now xs))
  have h1:p.r.closed=false:=by rw[←h3];exact hc
  have h2:=rF hd.nv hd.qs.rg (by decide)
  have h0:0<=p.r.version/\p.r.version<=4611686018427387904:=by rw[←h.ver];exact⟨k.ver0,k.verV⟩
  rcases ht with(⟨rfl,rfl⟩|⟨bb,off,cap,rfl,h6⟩)|⟨a,rfl,rfl⟩
  ·exact nC p.rb p.r (qh p.xs) p.now w3 hd.qs.rg h1 hd.nv k.nl h2 h0
  ·unfold jN
   split
   ·rename_i h5
    refine(nB p.rb p.r _ _ _ w3 hd.qs.rg h1 h5 hl).mono ?_;rintro e w' ⟨rfl,rfl⟩;exact⟨rfl,Ou _ _⟩
   ·exact rR p.rb p.r (qh p.xs) p.now xs bb off cap w3 hd.qs.rg h1 (jr hd.rules) (by unfold qh;rw[OM];exact k.few) hd.nv k.nl h6 (by omega) h4 h2 h0
  ·exact rS a p.rb p.r (qh p.xs) p.now w3 hd.qs.rg h1 hd.nv k.nl h2 h0
theorem KM{cl:Bool}{rs:List (BA×BA)}{ys:List BA}(h:wrC cl rs now xs=.inr ys):jN rs now xs=.inr ys:=by
 unfold wrC at h;split at h
 ·cases h
 ·exact h
variable{w4:World}
theorem KN{res:Sum (Nat×Int) (List BA)}{e2 e4:Ending}(h:PairA B V p w)(hV:V+1<=4611686018427387904)(he:wrC p.g.cl (qh p.xs) p.now xs=res)(hs:Below w.heap.size w w1)(h3:uI w1 p.gb p.g res e2 w2)(hC:w2.heap.size<=w3.heap.size)(hi: ∀k,k<w2.heap.size->(k<w.heap.size\/w1.heap.size<=k)->w3.heap[k]?=w2.heap[k]?)(c3:Frm (λk=>k=p.gb) w w3)(h4:uO w3 p.rb p.r res e4 w4)(hB:B<=w.heap.size):PaP B (V+1) p w w4:=by
 have hl:p.gb<w.heap.size:=qc h.kd.pg;have hG:p.rb<w.heap.size:=qc h.doc.qs.rg;have hx:=hs.size;have hn:w1.heap.size<=w2.heap.size:=h3.1.size;have hj:p.gb<w2.heap.size:=by omega
 have h9:zU w2 p.gb p.g->Below w3.heap.size w3 w4->PaP B (V+1) p w w4:=by
  intro hg h7;have hf:Frm (λ_=>False) w w4:=by
   refine⟨c3.os.symm▸h7.os,c3.tape.symm▸h7.tape,c3.output.symm▸h7.output,Ue c3.size h7.size,λk hk _=>?_⟩;refine(h7.block k (Ug hk c3.size)).trans ?_;by_cases e:k=p.gb
   ·rw[e,hi _ hj (Or.inl hl)]
    exact hg.trans h.kd.pg.symm
   ·exact c3.block k hk e
  exact⟨p,rfl,rfl,rfl,(h.keep hf λ_ _ e=>e).more (by omega),hf.mono λ_ _ e=>e.elim,λk e=>Or.inl e⟩
 unfold uI at h3;unfold uO at h4;rcases res with⟨i,f⟩|ys
 ·exact h9 h3.2.2 h4.2
 ·dsimp only at h3 h4
  by_cases h5:50<ys.length
  ·rw[if_pos h5]at h3 h4
   exact h9 h3.2.2 h4.2
  ·rw[if_neg h5]at h3 h4
   obtain⟨hF,v,-,hg,hv⟩:=h3;obtain⟨u,-,hr,hu,h8,hA⟩:=h4;have h1:=KM he;have ho:=h8.size;have hz:=c3.size;have hc:=h.dis _ h.mem.rb;have h6: ∀k,k<w.heap.size->k≠p.gb->k≠p.rb->w4.heap[k]?=w.heap[k]?:=λk hk n1 n2=>(h8.block k (by omega) (by intro e;injection e with e;exact n2 e)).trans (c3.block k hk n1)
   have ha: ∀k,p.Q k->w4.heap[k]?=w.heap[k]?:=λk hk=>h6 k (h.kd.lt.1 k hk) (λe=>h.kd.gQ (e▸hk)) (λe=>hc.1 (e▸hk));have h2: ∀k,p.R k->w4.heap[k]?=w.heap[k]?:=λk hk=>h6 k (h.kd.ru.lt k hk) (λe=>h.kd.gR (e▸hk)) (λe=>hc.2.1 (e▸hk));have h0: ∀k,p.K k->k≠p.rb->w4.heap[k]?=w.heap[k]?:=λk hk n=>h6 k (h.klt k hk) (h.dis k hk).2.2.1 n;have hE:w4.ownsRow w1.heap.size 9 1 v ys.length (qg ys):=qF hv λk hk=>by
    obtain⟨a,b,-⟩:=qf hv k hk;exact(h8.block k (by omega) (by intro e;injection e with e;omega)).trans (hi k a (Or.inr b))
   have hb: ∀k,v.ownBlock=some k->w1.heap.size<=k/\k<w2.heap.size:=λk hk=>⟨(qf hv k hk).2.1,(qf hv k hk).1⟩;have ht:zU w4 p.gb {p.g with tv:=v,ver:=p.g.ver+1}:=(h8.block p.gb (by omega) (by intro e;injection e with e;exact hc.2.2.1 e.symm)).trans ((hi _ hj (Or.inl hl)).trans hg)
   obtain⟨db,tv,wb,ls,hy,hd⟩:=h.kd.dk;have qs:=h.doc.qs;have hD:KD w4 B p.gb {p.g with tv:=v,ver:=p.g.ver+1} p.m p.lo p.xs ys p.R p.Q p.D:=
    {pg:=ht,ru:=h.kd.ru.to (by omega) h2,okx:=h.kd.okx,few:=h.kd.few,tv:=dr hE,sorted:=XT h.kd.sorted h1,nl:=(by omega),tup:=KZ h.kd.tup h1,lk:=h.kd.lk,ver0:=(by show 0<=p.g.ver+1;have:=h.kd.ver0;omega),verV:=(by show p.g.ver+1<=4611686018427387904;have:=h.verV;omega),gB:=h.kd.gB,dk:=⟨db,tv,wb,ls,hy,hd.keep (by omega) ha h2⟩,dw:=h.kd.dw,gQ:=h.kd.gQ,gR:=h.kd.gR,vQ:=(λk hk e=>by have:=hb k hk;have:=h.kd.lt.1 k e;omega),QB:=h.kd.QB}
   have hp:QsAt B p.rb {p.r with nowV:=u,version:=p.r.version+1} p.D p.gs p.ql p.wb w4:=by
    refine{qs with rg:=hr,clock:=qs.clock,queue:=qs.queue,row:=qF qs.row λk hk=>h0 k (h.mem.rq k hk) ?_,wv:=qs.wv,wrow:=(h0 _ h.mem.wb (qV qs.wrow qs.rg (by decide))).trans qs.wrow,at':=λj q x g e1 e2 e3=>?_}
    ·obtain⟨-,-,cur,e⟩:=qf qs.row k hk
     rw[←Oo (xs:=cur)]at e;exact qV e qs.rg (by decide)
    ·obtain⟨a1,a2⟩:=qs.at' j q x g e1 e2 e3
     have hm:=h.mem.ql q (OZ e1);refine⟨(h0 _ hm.1 (qV a1 qs.rg (by decide))).trans a1,xJ a2 λk hk=>h0 k (hm.2 k hk) ?_⟩
     obtain⟨-,cur,e⟩:=zG a2 k hk;exact qV e qs.rg (by decide)
   refine⟨{p with g:={p.g with tv:=v,ver:=p.g.ver+1},r:={p.r with nowV:=u,version:=p.r.version+1},now:=ys,K:=λk=>p.K k\/(w3.heap.size<=k/\k<w4.heap.size)},rfl,rfl,rfl,?_,?_,?_⟩
   ·refine⟨hD,⟨(h0 _ h.mem.pb (qV h.doc.pair qs.rg (by decide))).trans h.doc.pair,hp,qF h.doc.rules λk hk=>h0 k (h.mem.ru k hk) ?_,hu⟩,⟨Or.inl h.mem.pb,Or.inl h.mem.rb,Or.inl h.mem.wb,λq hq=>⟨Or.inl (h.mem.ql q hq).1,λk hk=>Or.inl ((h.mem.ql q hq).2 k hk)⟩,λk hk=>Or.inl (h.mem.rq k hk),λk hk=>Or.inl (h.mem.ru k hk),λk hk=>?_⟩,?_,?_,h.sim,h.cl,(by show p.g.ver+1=p.r.version+1;rw[h.ver]),(by show p.g.ver+1<=V+1;have:=h.verV;omega),?_⟩
    ·obtain⟨-,-,cur,e⟩:=qf h.doc.rules k hk
     rw[←Oo (xs:=cur)]at e;exact qV e qs.rg (by decide)
    ·rcases hA k hk with e|e
     ·exact Or.inl (h.mem.nv k e)
     ·exact Or.inr ⟨e,(zG hu k hk).1⟩
    ·rintro k (e|e)
     ·have:=h.klt k e;omega
     ·exact e.2
    ·rintro k (e|e)
     ·exact h.KB k e
     ·omega
    ·rintro k (e|e)
     ·obtain⟨d1,d2,d3,-⟩:=h.dis k e
      refine⟨d1,d2,d3,λe2=>?_⟩;have:=hb k e2;have:=h.klt k e;omega
     ·refine⟨λe2=>?_,λe2=>?_,λe2=>?_,λe2=>?_⟩
      ·have:=h.kd.lt.1 k e2;omega
      ·have:=h.kd.ru.lt k e2;omega
      ·have e3:k=p.gb:=e2
       omega
      ·have:=hb k e2;omega
   ·refine(c3.mono λk _ e=>Or.inr (Or.inr (Or.inl e))).trans (Frm.of_grown (X:=λk=>k=p.rb) h8 λk e=>?_) λk _ e=>by rw[e];exact Or.inr (Or.inr (Or.inr (Or.inr h.mem.rb)))
    injection e with e;exact e.symm
   ·rintro k (e|e|e|e|e)
    ·exact Or.inl (Or.inl e)
    ·exact Or.inl (Or.inr (Or.inl e))
    ·exact Or.inl (Or.inr (Or.inr (Or.inl e)))
    ·have:=hb k e
     exact Or.inr (by omega)
    ·rcases e with e|e
     ·exact Or.inl (Or.inr (Or.inr (Or.inr (Or.inr e))))
     ·exact Or.inr ⟨by omega,e.2⟩
open Go.RowKit Go.Shelf
variable{l:Value}{m:BA}{w':World}
theorem uN.keep(h:uN w l m)(k: ∀g,yo l=some g->w'.heap[g]?=w.heap[g]?):uN w' l m:=by
 rcases h with h|⟨g,n,cap,cur,rfl,hg,hc,hn,hm,hi⟩
 ·exact Or.inl h
 ·by_cases hz:n=0/\cap=0
  ·rw[hz.1,hz.2];exact Or.inl (Or.inr ⟨g,0,rfl⟩)
  ·refine Or.inr ⟨g,n,cap,cur,rfl,(k g ?_).trans hg,hc,hn,hm,hi⟩
   show(if n=0/\cap=0 then none else some g)=some g
   rw[if_neg hz]
def pH(w:World)(v:Value)(m:BA):Prop:=(∃b off,v=.slice (some ⟨b,off,none⟩) 0 0)\/uf w v m
theorem pH.keep(h:pH w l m)(k: ∀g,yo l=some g->w'.heap[g]?=w.heap[g]?):pH w' l m:=by
 rcases h with h|h|⟨g,n,cap,cur,rfl,hg,hn,hm,hi⟩
 ·exact Or.inl h
 ·exact Or.inr (Or.inl h)
 ·by_cases hz:n=0/\cap=0
  ·rw[hz.1,hz.2];exact Or.inl ⟨g,0,rfl⟩
  ·refine Or.inr (Or.inr ⟨g,n,cap,cur,rfl,(k g ?_).trans hg,hn,hm,hi⟩)
   show(if n=0/\cap=0 then none else some g)=some g
   rw[if_neg hz]
theorem pH.at(h:pH w v m):pk w v m:=by
 rcases h with⟨b,off,rfl⟩|h
 ·exact⟨[],Or.inr ⟨b,off,0,rfl,λi x hx=>by simp at hx⟩,Um _,rfl⟩
 ·exact h.at
structure LA(W w:World)(wb:Nat)(V:Int)(L:List PA)(pv l1 l3:Value)(us ws:List Value):Prop where
 lw:ue w wb pv l1 l3
 op:w.ownsRow (wb+1) 66 1 pv L.length (L.map λp=>Value.pointer (some ⟨p.pb,0,none⟩))
 o1:w.ownsRow (wb+1) 28 1 l1 us.length us
 o3:w.ownsRow (wb+1) 28 1 l3 ws.length ws
 sep: ∀k,l1.ownBlock=some k->l3.ownBlock≠some k
 pairs: ∀p∈L,PairA W.heap.size V p w
 dis: ∀(i j:Nat) (p q:PA),L[i]?=some p->L[j]?=some q->i≠j-> ∀k,p.F k-> ¬q.F k
 own: ∀p∈L,∀k,p.F k->k≠wb/\pv.ownBlock≠some k/\l1.ownBlock≠some k/\l3.ownBlock≠some k
 fB: ∀p∈L,∀k,p.F k->W.heap.size<=k
 lst: ∀u,u∈us\/u∈ws-> ∀k,yo u=some k->k<w.heap.size/\ ∀p∈L,¬p.F k
 three:ws.length=3 * us.length
 full1: ∀(k:Nat) (u:Value),us[k]?=some u->uN w u (zr k)
 full3: ∀(k j:Nat) (u:Value),k<us.length->j<3->ws[3 * k+j]?=some u->pH w u (zr k)
 below:Below W.heap.size W w
 wbB:W.heap.size<=wb
variable{L:List PA}{V':Int}{W:World}{i:Nat}{l1 l3 pv:Value}{us ws:List Value}
theorem LA.turn(h:LA W w wb V L pv l1 l3 us ws)(hi:L[i]?=some p)(hV:V<=V')(hp:PaP W.heap.size V' p w w'): ∃L',L'.length=L.length/\LA W w' wb V' L' pv l1 l3 us ws:=by
 obtain⟨p',e1,e2,e3,hP,hf,hF⟩:=hp;have hm:=OZ hi;have h6:=(OE.1 hi).1;have hc:=(h.pairs p hm).lt;have h5: ∀(j:Nat) (q:PA),(L.set i p')[j]?=some q->(j=i/\q=p')\/(j≠i/\L[j]?=some q):=by
  intro j q hq;by_cases e:i=j
  ·subst e
   rw[OI h6]at hq;injection hq with hq;exact Or.inl ⟨rfl,hq.symm⟩
  ·rw[OH e]at hq
   exact Or.inr ⟨Ne.symm e,hq⟩
 have h4: ∀q∈L.set i p',q=p'\/ ∃j,j≠i/\L[j]?=some q:=by
  intro q hq;obtain⟨j,hj⟩:=OX.1 hq;rcases h5 j q hj with⟨-,e⟩|⟨n,e⟩
  ·exact Or.inl e
  ·exact Or.inr ⟨j,n,e⟩
 have h0: ∀k,k<w.heap.size-> ¬p.F k->w'.heap[k]?=w.heap[k]?:=λk h1 h2=>hf.block k h1 h2;have h7:=qc h.lw;have ho: ∀{v:Value} {t:TypeId} {n:Nat} {xs:List Value},w.ownsRow (wb+1) t 1 v n xs-> ∀k,v.ownBlock=some k->k<w.heap.size:=λo k hk=>(qf o k hk).1;have h9:(L.set i p').map (λq=>Value.pointer (some ⟨q.pb,0,none⟩))=L.map λq=>Value.pointer (some ⟨q.pb,0,none⟩):=by
  apply List.ext_getElem?
  intro j;rw[OF,OF];by_cases e:i=j
  ·subst e
   rw[OI h6,hi];show some (Value.pointer (some ⟨p'.pb,0,none⟩))=some (Value.pointer (some ⟨p.pb,0,none⟩))
   rw[e1]
  ·rw[OH e]
 refine⟨L.set i p',OO,?_⟩;refine⟨(h0 wb h7 λe=>(h.own p hm wb e).1 rfl).trans h.lw,?_,qF h.o1 λk hk=>h0 k (ho h.o1 k hk) λe=>(h.own p hm k e).2.2.1 hk,qF h.o3 λk hk=>h0 k (ho h.o3 k hk) λe=>(h.own p hm k e).2.2.2 hk,h.sep,λq hq=>?_,λa b q q2 ha hb h8 k hk h3=>?_,λq hq k hk=>?_,λq hq k hk=>?_,λu hu k hk=>?_,h.three,λk u hu=>?_,λk j u a b c=>?_,?_,h.wbB⟩
 ·rw[OO,h9]
  exact qF h.op λk hk=>h0 k (ho h.op k hk) λe=>(h.own p hm k e).2.1 hk
 ·rcases h4 q hq with e|⟨j,hj,e⟩
  ·rw[e];exact hP
  ·exact((h.pairs q (OZ e)).keep hf λk hk=>h.dis j i q p e hi hj k hk).more hV
 ·rcases h5 a q ha with⟨a1,a2⟩|⟨a1,a2⟩<;>rcases h5 b q2 hb with⟨b1,b2⟩|⟨b1,b2⟩
  ·omega
  ·rw[a2]at hk
   rcases hF k hk with e|e
   ·exact h.dis i b p q2 hi b2 (Ne.symm b1) k e h3
   ·have:=(h.pairs q2 (OZ b2)).lt k h3;omega
  ·rw[b2]at h3
   rcases hF k h3 with e|e
   ·exact h.dis a i q p a2 hi a1 k hk e
   ·have:=(h.pairs q (OZ a2)).lt k hk;omega
  ·exact h.dis a b q q2 a2 b2 h8 k hk h3
 ·rcases h4 q hq with e|⟨j,hj,e⟩
  ·rw[e]at hk
   rcases hF k hk with e|e
   ·exact h.own p hm k e
   ·refine⟨by omega,λe2=>?_,λe2=>?_,λe2=>?_⟩
    ·have:=ho h.op k e2;omega
    ·have:=ho h.o1 k e2;omega
    ·have:=ho h.o3 k e2;omega
  ·exact h.own q (OZ e) k hk
 ·rcases h4 q hq with e|⟨j,hj,e⟩
  ·rw[e]at hk
   rcases hF k hk with e|e
   ·exact h.fB p hm k e
   ·have:=h.below.size;omega
  ·exact h.fB q (OZ e) k hk
 ·obtain⟨q1,q2⟩:=h.lst u hu k hk
  refine⟨Ug q1 hf.size,λq hq h3=>?_⟩;rcases h4 q hq with e|⟨j,hj,e⟩
  ·rw[e]at h3
   rcases hF k h3 with e|e
   ·exact q2 p hm e
   ·omega
  ·exact q2 q (OZ e) h3
 ·exact(h.full1 k u hu).keep λg hg=>by
   obtain⟨q1,q2⟩:=h.lst u (Or.inl (OZ hu)) g hg;exact h0 g q1 (q2 p hm)
 ·exact(h.full3 k j u a b c).keep λg hg=>by
   obtain⟨q1,q2⟩:=h.lst u (Or.inr (OZ c)) g hg;exact h0 g q1 (q2 p hm)
 ·exact Frm.below h.below hf h.below.size λk _ e=>h.fB p hm k e
theorem LA.later(h:LA W w wb V L pv l1 l3 us ws)(hb:Below w.heap.size w w'):LA W w' wb V L pv l1 l3 us ws:=
 {h with lw:=(hb.block _ (qc h.lw)).trans h.lw,op:=qF h.op λk hk=>hb.block k (qf h.op k hk).1,o1:=qF h.o1 λk hk=>hb.block k (qf h.o1 k hk).1,o3:=qF h.o3 λk hk=>hb.block k (qf h.o3 k hk).1,pairs:=λp hp=>(h.pairs p hp).below hb,lst:=λu hu k hk=>⟨Ug (h.lst u hu k hk).1 hb.size,(h.lst u hu k hk).2⟩,full1:=λk u hu=>(h.full1 k u hu).keep λg hg=>hb.block g (h.lst u (Or.inl (OZ hu)) g hg).1,full3:=λk j u a b c=>(h.full3 k j u a b c).keep λg hg=>hb.block g (h.lst u (Or.inr (OZ c)) g hg).1,below:=h.below.trans (hb.mono h.below.size)}
theorem LA.more(h:LA W w wb V L pv l1 l3 us ws)(hV:V<=V'):LA W w wb V' L pv l1 l3 us ws:={h with pairs:=λp hp=>(h.pairs p hp).more hV}
theorem sp(h:uf w l m)(hk:yo l=some k): ∃cur,xK w k cur:=by
 rcases h with rfl|⟨g,n,cap,cur,rfl,hg,-⟩
 ·cases hk
 ·have hk:(if n=0/\cap=0 then none else some g)=some k:=hk
  split at hk
  ·cases hk
  ·injection hk with hk;subst hk;exact⟨cur,hg⟩
theorem sq(h:pH w l m)(hk:yo l=some k): ∃cur,xK w k cur:=by
 rcases h with⟨b,off,rfl⟩|h
 ·cases hk
 ·exact sp h hk
variable{w0:World}
theorem mA(h0:LA W w0 wb V L pv l1 l3 us ws)(hb:Below w0.heap.size w0 w)(hv:w.ownsRow w0.heap.size 9 1 v now.length (qg now))(hJ:now.length<=50)
  (h1:(us.length+1) * 24<=140737488355328) (h3:(ws.length+3) * 24<=140737488355328) (hm:us.length<=140737488355328):
  Calls prog 78 #[.pointer (some ⟨wb,0,none⟩),v] w λe w'=>e=.returned (.tuple #[])/\(∀(k:Nat) (cs:List Value) (t:TypeId),w.heap[k]?=some (.cells cs.toArray t (0,0))->t≠61->t≠9->t≠28->w'.heap[k]?=w.heap[k]?)/\ ∃l1' l3' ws',LA W w' wb V L pv l1' l3' (us++[v]) ws':=by
 have h:=h0.later hb;have hd:=h.lw;have h7:=h.o1;have h6:=h.o3;have hE:wb<w0.heap.size:=qc h0.lw;have hK:w0.heap.size<=w.heap.size:=hb.size;have h5: ∀p∈L,∀k,p.F k->k<w0.heap.size:=λp hp=>(h0.pairs p hp).lt;have h2: ∀k,yo v=some k->w0.heap.size<=k/\ ∃cur:List Value,w.heap[k]?=some (.cells cur.toArray 9 (0,0)):=by
  intro k hk;rcases hv.2 with⟨rfl,-⟩|⟨g,cap,cur,rfl,a,b,-⟩
  ·cases hk
  ·have h8:(if now.length=0/\cap=0 then none else some g)=some k:=hk
   split at h8
   ·cases h8
   ·injection h8 with h8;subst h8;exact⟨a,cur.toList,by rw[Oo];exact b⟩
 have key:Calls prog 78 #[.pointer (some ⟨wb,0,none⟩),v] w λe w'=>e=.returned (.tuple #[])/\kA w wb (wb+1) pv l1 l3 v us.length ws.length us ws (zr us.length) w':=by
  have none:(v=.slice none 0 0\/ ∃bb off,v=.slice (some ⟨bb,off,none⟩) 0 0)->Calls prog 78 #[.pointer (some ⟨wb,0,none⟩),v] w λe w'=>e=.returned (.tuple #[])/\kA w wb (wb+1) pv l1 l3 v us.length ws.length us ws (zr us.length) w':=λhh=>
   Qg wb (wb+1) pv l1 l3 v us ws w hh ⟨hd,h7,h6,Or.inl hh,h.sep,Ui _,by omega⟩ h1 h3 hm
  rcases hv.2 with⟨rfl,-⟩|⟨g,cap,cur,rfl,a,b,d,e,f,-⟩
  ·exact none (Or.inl rfl)
  ·by_cases hz:now.length=0/\cap=0
   ·refine none (Or.inr ⟨g,0,?_⟩)
    rw[hz.1,hz.2]
   ·exact Xs wb (wb+1) pv l1 l3 g now.length cap cur.toList us ws w hd h7 h6 h.sep (Ui _) (by omega) (by unfold xK;rw[Oo];exact b) (by rw[Array.length_toList];omega) d (by omega) hz h1 h3 hm
 refine key.mono ?_;rintro e w' ⟨rfl,l1',l3',v1,v2,v3,hs,f1,f2,f3,he,eo,et,eu,hi,hB,hy,hf⟩;have ha: ∀(k:Nat) (cs:List Value) (t:TypeId),w.heap[k]?=some (.cells cs.toArray t (0,0))->t≠61->t≠9->t≠28->w'.heap[k]?=w.heap[k]?:=by
  intro k cs t hk n1 n2 n3;refine hf k (qc hk) (qV hk hd n1) (λe=>?_) (λe=>?_) (λe=>?_)
  ·obtain⟨-,cur2,d⟩:=h2 k e
   exact qV hk d n2 rfl
  ·obtain⟨-,-,c2,d⟩:=qf h7 k e
   rw[←Oo (xs:=c2)]at d;exact qV hk d n3 rfl
  ·obtain⟨-,-,c2,d⟩:=qf h6 k e
   rw[←Oo (xs:=c2)]at d;exact qV hk d n3 rfl
 refine⟨rfl,ha,l1',l3',ws++[v1]++[v2]++[v3],?_⟩;have hq:us.length+1=(us++[v]).length:=by simp
 have hC:ws.length+1+1+1=(ws++[v1]++[v2]++[v3]).length:=by simp
 have hr:Frm (λk=>k=wb\/yo v=some k\/l1.ownBlock=some k\/l3.ownBlock=some k) w w':=⟨eo,et,eu,he,λk hk hx=>hf k hk (λe=>hx (Or.inl e)) (λe=>hx (Or.inr (Or.inl e))) (λe=>hx (Or.inr (Or.inr (Or.inl e)))) (λe=>hx (Or.inr (Or.inr (Or.inr e))))⟩;have hA: ∀p∈L,∀k,p.F k-> ¬(k=wb\/yo v=some k\/l1.ownBlock=some k\/l3.ownBlock=some k):=by
  intro p hp k hk;obtain⟨a1,a2,a3,a4⟩:=h.own p hp k hk;rintro(e|e|e|e)
  ·exact a1 e
  ·have:=(h2 k e).1
   have:=h5 p hp k hk;omega
  ·exact a3 e
  ·exact a4 e
 have hl: ∀k cur,xK w k cur->k<w0.heap.size->w'.heap[k]?=w.heap[k]?:=by
  intro k cur hc hk;refine hf k (qc hc) (qV hc hd (by decide)) (λe=>?_) (λe=>?_) (λe=>?_)
  ·have:=(h2 k e).1;omega
  ·obtain⟨-,-,c2,d⟩:=qf h7 k e
   rw[←Oo (xs:=c2)]at d;exact qV hc d (by decide) rfl
  ·obtain⟨-,-,c2,d⟩:=qf h6 k e
   rw[←Oo (xs:=c2)]at d;exact qV hc d (by decide) rfl
 have h9: ∀u,u=v1\/u=v2\/u=v3->uf w' u (zr us.length):=by
  rintro u (rfl|rfl|rfl)
  ·exact f1
  ·exact f2
  ·exact f3
 refine⟨hs.lw,?_,by rw[←hq];exact hs.o1,by rw[←hC];exact hs.o3,hs.sep,λp hp=>(h.pairs p hp).keep hr (hA p hp),h.dis,λp hp k hk=>?_,h.fB,λu hu k hk=>?_,?_,λk u hu=>?_,λk j u a b c=>?_,?_,h.wbB⟩
 ·refine qF h.op λk hk=>?_
  obtain⟨a,a2,cur,b⟩:=qf h.op k hk;rw[←Oo (xs:=cur)]at b;refine hf k a (by omega) (λe=>?_) (λe=>?_) (λe=>?_)
  ·obtain⟨-,cur2,d⟩:=h2 k e
   exact qV b d (by decide) rfl
  ·obtain⟨-,-,c2,d⟩:=qf h7 k e
   rw[←Oo (xs:=c2)]at d;exact qV b d (by decide) rfl
  ·obtain⟨-,-,c2,d⟩:=qf h6 k e
   rw[←Oo (xs:=c2)]at d;exact qV b d (by decide) rfl
 ·obtain⟨a1,a2,a3,a4⟩:=h.own p hp k hk
  have ho:=h5 p hp k hk;refine⟨a1,a2,λe=>?_,λe=>?_⟩
  ·rcases hB k e with e|e
   ·exact a3 e
   ·omega
  ·rcases hy k e with e|e
   ·exact a4 e
   ·omega
 ·have hn:(u∈us\/u∈ws)->k<w'.heap.size/\ ∀p∈L,¬p.F k:=λhu=>⟨Ug (h.lst u hu k hk).1 he,(h.lst u hu k hk).2⟩
  have ht:yo v=some k->k<w'.heap.size/\ ∀p∈L,¬p.F k:=λe=>by
   obtain⟨a,cur,b⟩:=h2 k e;exact⟨Ug (qc b) he,λp hp hF=>by have:=h5 p hp k hF;omega⟩
  have h4:u=v1\/u=v2\/u=v3->k<w'.heap.size/\ ∀p∈L,¬p.F k:=λhu=>by
   rcases hi u hu k hk with e|e
   ·exact ht e
   ·obtain⟨cur,b⟩:=sp (h9 u hu) hk
    exact⟨qc b,λp hp hF=>by have:=h5 p hp k hF;omega⟩
  rcases hu with hu|hu
  ·rcases OS.1 hu with hu|hu
   ·exact hn (Or.inl hu)
   ·rw[O3]at hu
    subst hu;exact ht hk
  ·simp only[OS,O3]at hu
   rcases hu with((hu|hu)|hu)|hu
   ·exact hn (Or.inr hu)
   ·exact h4 (Or.inl hu)
   ·exact h4 (Or.inr (Or.inl hu))
   ·exact h4 (Or.inr (Or.inr hu))
 ·have:=h.three
  simp;omega
 ·rcases Nat.lt_trichotomy k us.length with e|e|e
  ·rw[Oz e]at hu
   exact(h.full1 k u hu).keep λg hg=>by
    obtain⟨cur,hc⟩:=dp (h.full1 k u hu) hg;exact hl g cur hc (h0.lst u (Or.inl (OZ hu)) g hg).1
  ·subst e
   rw[show(us++[v])[us.length]?=some v by simp]at hu
   injection hu with hu;subst hu;exact hs.lf
  ·have:=(OE.1 hu).1
   simp at this;omega
 ·have hD:=h.three
  rw[←hq]at a;rcases Uh k us.length with e|e
  ·have ho:3 * k+j<ws.length:=by omega
   have c':ws[3 * k+j]?=some u:=by
    rw[Ov,Ov,Oz ho]at c;exact c
   exact(h.full3 k j u e b c').keep λg hg=>by
    obtain⟨cur,hc⟩:=sq (h.full3 k j u e b c') hg;exact hl g cur hc (h0.lst u (Or.inr (OZ c')) g hg).1
  ·have e:k=us.length:=by omega
   subst e;have hj:j=0\/j=1\/j=2:=by omega
   have key: ∀j,j<3->(ws++[v1]++[v2]++[v3])[3 * us.length+j]?=[v1,v2,v3][j]?:=by
    intro j hj;rw[Ov,Ov,←hD,OA (by omega)]
    simp
   rw[key j b]at c;refine Or.inr (h9 u ?_);rcases hj with rfl|rfl|rfl
   ·simp at c;exact Or.inl c.symm
   ·simp at c;exact Or.inr (Or.inl c.symm)
   ·simp at c;exact Or.inr (Or.inr c.symm)
 ·refine Frm.below h.below hr h.below.size λk _ e=>?_
  have hI:=h0.below.size;have hG:=h.wbB;rcases e with e|e|e|e
  ·omega
  ·have:=(h2 k e).1;omega
  ·have:=(qf h7 k e).2.1;omega
  ·have:=(qf h6 k e).2.1;omega
theorem KD.low{B':Nat}{m:List (Value×Value)}(h:KD w B gb g m lo xs now R Q D)(hb:B'<=B):KD w B' gb g m lo xs now R Q D:=
 {h with gB:=Ue hb h.gB,QB:=λk e=>Ue hb (h.QB k e)}
def pI(xs:List BA)(n:Nat)(qu:Int)(lo:Nat)(w:World)(gb:Nat):Prop:=
 ∃g m R Q,g.ver=0/\g.cl=false/\g.tv=.slice none 0 0/\(∀k,R k->lo<=k)/\n<=4/\KD w lo gb g m lo xs [] R Q (bW n qu)
variable{e:Ending}{qu:Int}
theorem G8{wk:Nat}(hp:ch xs wk qu w e w')(ha:zY xs.length wk qu=false)(ho:xN xs=none)(hf:xs.length<=12)(h1:1<=wk)(h4:wk<=4)(q1:1<=qu)(q6:qu<=6):
  ∃gb,e=.returned (.tuple #[.pointer (some ⟨gb,0,none⟩),.int .i64 0,.int .i64 0])/\Below w.heap.size w w'/\pI xs wk qu w.heap.size w' gb:=by
 obtain⟨hb,⟨h,-⟩|⟨-,⟨k,c,h,-⟩|⟨-,b,mb,m,db,he,hn,h0,h9,hm,hr,hd⟩⟩⟩:=hp
 ·rw[ha]at h;cases h
 ·rw[ho]at h;cases h
 ·have h5:zU w' b ⟨0,mb,.slice none 0 0,0,.pointer (some ⟨db,0,none⟩),false⟩:=h0
  have hl:=hm.lt;have h8:=hm;obtain⟨es,cl,h7,-⟩:=h8;have ru:Kpt (λk=>w.heap.size<=k/\(k=mb\/ ∃cur,w'.heap[k]?=some (.cells cur 106 (0,0)))) (λv=>zt v yX mb m/\RMap v w.heap.size xs m) w':=by
   refine⟨λv hv=>⟨hm.move (hv mb ⟨h9,Or.inl rfl⟩),hr.move λg cur hg hc=>hv g ⟨hg,Or.inr ⟨cur,hc⟩⟩⟩,λk e=>?_⟩;rcases e with⟨-,e|⟨cur,e⟩⟩
   ·rw[e];exact hl
   ·exact qc e
  have hj:Kpt (λk=>w.heap.size<=k/\(k=mb\/ ∃cur,w'.heap[k]?=some (.cells cur 106 (0,0)))) (λv=>zp v mb xs) w':=⟨λv hv=>⟨m,_,(ru.all v hv).1,(ru.all v hv).2⟩,ru.lt⟩;have h6:uG w' w.heap.size db wk qu:=by
   have e:((wk:Int)).toNat=wk:=Int.toNat_natCast wk;rw[e]at hd;exact hd
  have hk:=h6;obtain⟨hq,wb0,-,hu,ht⟩:=hk;obtain⟨wb,hi,h3⟩:=ZE h6 h1 h4 q1 q6 hj (λk e=>by
   rcases e with⟨-,e|e⟩
   ·exact Or.inl ⟨es,cl,by rw[e];exact h7⟩
   ·exact Or.inr e)
  refine⟨b,he,hb,⟨0,mb,.slice none 0 0,0,.pointer (some ⟨db,0,none⟩),false⟩,m,_,_,rfl,rfl,rfl,λk e=>e.1,h4,{pg:=h5,ru:=ru,okx:=ho,few:=hf,tv:=Or.inl ⟨rfl,rfl⟩,sorted:=List.Pairwise.nil,nl:=by simp,tup:=(λs hs=>by cases hs),lk:=rfl,ver0:=Int.le_refl _,verV:=(by show(0:Int)<=4611686018427387904;decide),gB:=hn,dk:=⟨db,_,wb,[],rfl,h3⟩,dw:=GV _ _,gQ:=λe=>?_,gR:=λe=>?_,vQ:=(λk e=>by cases e),QB:=λk e=>?_}⟩
  ·rcases e with e|e
   ·rw[e,h3.blk]at h0;injection h0 with h2;injection h2 with _ h2;revert h2;decide
   ·rw[e,h3.wrow]at h0;injection h0 with h2;injection h2 with _ h2;revert h2;decide
  ·rcases e with⟨-,e|⟨cur,e⟩⟩
   ·rw[e,h7]at h0;injection h0 with h2;cases h2
   ·rw[e]at h0;injection h0 with h2;injection h2 with _ h2;revert h2;decide
  ·rcases e with e|e
   ·rw[e];exact hq
   ·rw[e];exact hi
variable{n:Nat}
theorem pI.kept{h:Nat}(p:pI xs n qu lo w2 gb)(h0:h<lo)(hk:w2.grownBy w3 (some h)):pI xs n qu lo w3 gb:=by
 obtain⟨g,m,R,Q,a1,a2,a3,a4,a5,kd⟩:=p;refine⟨g,m,R,Q,a1,a2,a3,a4,a5,kd.frm (X:=λk=>k=h) (Frm.of_grown hk λk e=>by injection e with e;exact e.symm) λk hk=>?_⟩
 refine⟨λe=>?_,λe=>?_,λe=>?_,λe=>?_⟩
 ·have:=kd.QB _ e;omega
 ·have:=a4 _ e;omega
 ·have:=kd.gB;omega
 ·rw[a3]at e;cases e
def mW(xs:List BA)(n:Nat)(qu:Int)(w w':World)(b:Nat):Prop:=
 ∃rv wb,w.heap.size<=b/\xX w' b ⟨rv,.slice none 0 0,0,0,false,qu,.slice none 0 0,.slice (some ⟨wb,0,none⟩) n n⟩/\w'.ownsRow w.heap.size 163 2 rv (qh xs).length (flR (qh xs))/\w.heap.size<=wb/\w'.heap[wb]?=some (.cells (List.replicate n (Value.int .i64 0)).toArray 3 (0,0))
variable{wk:Int}
theorem Y8(h:zY n wk qu=false):1<=wk/\wk<=4/\1<=qu/\qu<=6:=by
 unfold zY at h;simp only[Bool.or_eq_false_iff,decide_eq_false_iff_not]at h;omega
theorem pJ(v:Value)(xs:List BA)(wk qu:Int)(w:World)(h:qE w v xs)(hl:xs.length<=maxLen)(hr:zB xs wk qu=none):
  Calls prog 26 #[v,.int .i64 wk,.int .i64 qu] w λe w'=> ∃b,e=.returned (.tuple #[.pointer (some ⟨b,0,none⟩),.int .i64 0,.int .i64 0])/\Below w.heap.size w w'/\pI xs wk.toNat qu w.heap.size w' b:=by
 obtain⟨e1,e2,e3⟩:=oF hr;obtain⟨a1,a2,a3,a4⟩:=Y8 e2;obtain⟨n,rfl⟩: ∃n:Nat,wk=n:=⟨wk.toNat,by omega⟩
 refine(lr v xs n qu w h hl).mono ?_;intro e w' hp;exact G8 hp e2 e1 e3 (by omega) (by omega) a3 a4
theorem Kx(hp:iB xs wk qu w e w')(hr:zB xs wk qu=none): ∃b,e=.returned (.tuple #[.pointer (some ⟨b,0,none⟩),.int .i64 0,.int .i64 0])/\Below w.heap.size w w'/\mW xs wk.toNat qu w w' b:=by
 obtain⟨e1,e2,-⟩:=oF hr;obtain⟨hb,⟨h1,-⟩|⟨-,⟨k',c',h2,-⟩|⟨-,b,rv,wb,n,rfl,h5,h4,h6,rfl,h3,h0⟩⟩⟩:=hp
 ·rw[e2]at h1;cases h1
 ·rw[e1]at h2;cases h2
 ·exact⟨b,rfl,hb,rv,wb,h5,h4,h6,h3,h0⟩
theorem aT(v:Value)(xs:List BA)(wk qu:Int)(w:World)(h:qE w v xs)(hl:xs.length<=maxLen)(hsz: ∀x∈xs,x.size<=maxLen)(hr:zB xs wk qu=none):
  Calls prog 70 #[v,.int .i64 wk,.int .i64 qu] w λe w'=> ∃b,e=.returned (.tuple #[.pointer (some ⟨b,0,none⟩),.int .i64 0,.int .i64 0])/\Below w.heap.size w w'/\mW xs wk.toNat qu w w' b:=
 (aZ v xs wk qu w h hl hsz).mono λ_ _ hp=>Kx hp hr
def jh(gb rb:Nat):Obj:=.cells #[.pointer (some ⟨gb,0,none⟩),.pointer (some ⟨rb,0,none⟩)] 65
variable{rb:Nat}
theorem Y9(hV:0<=V)(h5:lo<=w3.heap.size)(hB:B<=lo)(h3:pI xs n qu lo w3 gb)(h2:Below w3.heap.size w3 w4)(h4:mW xs n qu w3 w4 rb):
  ∃p:PA,p.pb=w4.heap.size/\p.xs=xs/\p.now=[]/\p.g.ver=0/\p.g.cl=false/\PairA B V p (w4.alloc (jh gb rb))/\ ∀k,p.F k->lo<=k/\k<=w4.heap.size:=by
 obtain⟨g,m,R,Q,a1,a2,a3,a4,a5,kd⟩:=h3;obtain⟨rv,wb',r1,r2,r3,r4,r5⟩:=h4;have hs:=h2.size;have h0:Below w4.heap.size w4 (w4.alloc (jh gb rb)):=(Ou _ _).alloc (Uc _) _;have h1:Below w3.heap.size w3 (w4.alloc (jh gb rb)):=h2.trans (h0.mono hs);have h6:(w4.alloc (jh gb rb)).heap.size=w4.heap.size+1:=by show(w4.heap.push _).size=_;simp
 have h7:=(kd.later h1).low hB;have qs:QsAt B rb ⟨rv,.slice none 0 0,0,0,false,qu,.slice none 0 0,.slice (some ⟨wb',0,none⟩) n n⟩ (bW n qu) [] [] wb' (w4.alloc (jh gb rb)):=
  {rg:=ut r2 h0,clock:=rfl,queue:=rfl,row:=World.ownsRow_nil _ _ _ _,wv:=(by show Value.slice _ n n=.slice _ (List.replicate n (none:Option Nat)).length (List.replicate n (none:Option Nat)).length;rw[ON]),wrow:=(by
     show _=some (Obj.cells ((List.replicate n (none:Option Nat)).map oz).toArray _ _)
     rw[List.map_replicate];exact(h0.block _ (qc r5)).trans r5),len:=rfl,at':=(λj q x g e=>by simp at e),nd:=(λi j q q' e=>by simp at e),qB:=(λq hq=>by cases hq),wB:=(by omega),w4:=(by show(List.replicate n (none:Option Nat)).length<=4;rw[ON];exact a5),n30:=Um _}
 refine⟨⟨w4.heap.size,gb,rb,wb',g,⟨rv,.slice none 0 0,0,0,false,qu,.slice none 0 0,.slice (some ⟨wb',0,none⟩) n n⟩,xs,[],m,lo,bW n qu,[],[],R,Q,λk=>w3.heap.size<=k/\k<=w4.heap.size⟩,rfl,rfl,rfl,a1,a2,?_,?_⟩
 ·refine⟨h7,⟨qn w4 [Value.pointer (some ⟨gb,0,none⟩),.pointer (some ⟨rb,0,none⟩)] _,qs,xM (q9 r3 h0) h5,Or.inl ⟨rfl,rfl⟩⟩,⟨⟨hs,Uc _⟩,⟨r1,Ub (qc r2)⟩,⟨r4,Ub (qc r5)⟩,(λq hq=>by cases hq),(λk e=>by cases e),λk e=>⟨(qf r3 k e).2.1,Ub (qf r3 k e).1⟩,(λk e=>by cases e)⟩,λk e=>?_,λk e=>?_,⟨rfl,λj r g e=>?_,λi j e=>?_⟩,a2,a1,?_,λk e=>⟨λe2=>?_,λe2=>?_,λe2=>?_,λe2=>?_⟩⟩
  ·rw[h6];have:=e.2;omega
  ·have:=e.1;omega
  ·have e:([]:List Rq)[j]?=some r:=e
   simp at e
  ·have e:(List.replicate n (none:Option Nat))[i]?=some (some j):=e
   rw[OG]at e;split at e
   ·injection e with e;cases e
   ·cases e
  ·show g.ver<=V
   omega
  ·have:=kd.lt.1 k e2;have:=e.1;omega
  ·have:=kd.ru.lt k e2;have:=e.1;omega
  ·have e2:k=gb:=e2
   have:=qc kd.pg;have:=e.1;omega
  ·have e2:g.tv.ownBlock=some k:=e2
   rw[a3]at e2;cases e2
 ·rintro k (e|e|e|e|e)
  ·have:=kd.QB k e;have:=kd.lt.1 k e;omega
  ·have:=a4 k e;have:=kd.ru.lt k e;omega
  ·have e:k=gb:=e
   have:=kd.gB;have:=qc kd.pg;omega
  ·have e:g.tv.ownBlock=some k:=e
   rw[a3]at e;cases e
  ·have:=e.1;have:=e.2;omega
theorem Xz(w:World)(base:Nat)(v:Value)(n:Nat)(us:List Value)(b:Nat)(h6:w.ownsRow base 66 1 v n us)(hb:base<=w.heap.size)(hl:n<=8796093022208):
  ∃g c w',(Builtin.append_ #[58,58] 58 #[v,.slice (some ⟨w.heap.size,0,none⟩) 1 1]).run prog (w.alloc (.cells #[.pointer (some ⟨b,0,none⟩)] 66))=.ok (.slice (some ⟨g,0,none⟩) (n+1) c) w'/\
   w'.ownsRow base 66 1 (.slice (some ⟨g,0,none⟩) (n+1) c) (n+1) (us++[.pointer (some ⟨b,0,none⟩)])/\w.grownBy w' v.ownBlock/\ ∀k,(Value.slice (some ⟨g,0,none⟩) (n+1) c).ownBlock=some k->v.ownBlock=some k\/w.heap.size<k:=by
 obtain⟨i,hi,h7⟩:=Un.1 Tryz.infoPP;simp only[Prod.mk.injEq]at h7;obtain⟨hz,hs,h8⟩:=h7;have h1: ∀(j:Nat) (x:Value),[Value.pointer (some ⟨b,0,none⟩)][j]?=some x->(w.alloc (.cells #[.pointer (some ⟨b,0,none⟩)] 66)).cell? ((⟨w.heap.size,0,none⟩:Addr).add j)=some x:=by
  intro j x hj;rw[sh];exact qa (qn w [.pointer (some ⟨b,0,none⟩)] _) hj
 obtain⟨v',w',hr,h2,h3,h4,h5⟩:=run_append_own_at (P:=prog) (w.alloc (.cells #[.pointer (some ⟨b,0,none⟩)] 66)) base 58 58 66 i (.pointer none) 1 8 underlying58 hi hz hs h8 rfl (by decide) v n us (h6.alloc _) ⟨w.heap.size,0,none⟩ 1 1 [.pointer (some ⟨b,0,none⟩)] rfl h1
  (by intro u hu;simp at hu;subst hu;rfl) (by unfold maxLen;omega) (by omega) (by simp;omega)
 rcases h2.2 with⟨hv,h0⟩|⟨g,cap,cur,hv,-⟩
 ·omega
 ·subst hv
  refine⟨g,cap,w',hr,h2,uW h3,λk e=>?_⟩;rcases h5 with h5|h5
  ·exact Or.inl (h5.symm.trans e)
  ·rw[h5]at e
   injection e with e;rw[←e];exact Or.inr (by show w.heap.size<(w.heap.push _).size;simp)
variable{pc:Nat}{px:Option Addr}
theorem LA.addPair(h:LA W w wb V L (.slice px L.length pc) l1 l3 us ws)(he:Below w.heap.size w w4)(hn:L.length<=8796093022208)(hs:p.pb=w4.heap.size)(hP:PairA W.heap.size V p (w4.alloc (jh gb rb)))(hF: ∀k,p.F k->w.heap.size<=k/\k<=w4.heap.size):
  ∃g5 c5 w5,(Builtin.append_ #[58,58] 58 #[.slice px L.length pc,.slice (some ⟨w4.heap.size+1,0,none⟩) 1 1]).run prog ((w4.alloc (jh gb rb)).alloc (.cells #[.pointer (some ⟨w4.heap.size,0,none⟩)] 66))=.ok (.slice (some ⟨g5,0,none⟩) (L.length+1) c5) w5/\
   w5.cell? ⟨wb,0,none⟩=some (.slice px L.length pc)/\w5.frozen? ⟨wb,0,none⟩=false/\
   LA W (w5.setCell ⟨wb,0,none⟩ (.slice (some ⟨g5,0,none⟩) (L.length+1) c5)) wb V (L++[p]) (.slice (some ⟨g5,0,none⟩) (L.length+1) c5) l1 l3 us ws:=by
 have ht:wb<w.heap.size:=qc h.lw;have hx:W.heap.size<=w.heap.size:=h.below.size;have hv:=he.size;have h4:=h.later he;have ho:Below w4.heap.size w4 (w4.alloc (jh gb rb)):=(Ou _ _).alloc (Uc _) _;have ha:=h4.later ho;have hb:(w4.alloc (jh gb rb)).heap.size=w4.heap.size+1:=by show(w4.heap.push _).size=_;simp
 obtain⟨g5,c5,w5,h8,h6,hi,h3⟩:=Xz (w4.alloc (jh gb rb)) (wb+1) _ _ _ w4.heap.size ha.op (by rw[hb];omega) hn
 rw[hb]at h8 h3;have h9: ∀k,(Value.slice px L.length pc).ownBlock=some k->k<w.heap.size/\wb+1<=k:=λk hk=>⟨(qf h.op k hk).1,(qf h.op k hk).2.1⟩;have hm:w5.grownBy (w5.setCell ⟨wb,0,none⟩ (.slice (some ⟨g5,0,none⟩) (L.length+1) c5)) (some wb):=zf (xD _ _) _ _;have hl:Frm (λk=>k=wb) w5 (w5.setCell ⟨wb,0,none⟩ (.slice (some ⟨g5,0,none⟩) (L.length+1) c5)):=Frm.of_grown hm λk e=>(Option.some.inj e).symm;have hf:Frm (λk=>k=wb\/(Value.slice px L.length pc).ownBlock=some k) (w4.alloc (jh gb rb)) (w5.setCell ⟨wb,0,none⟩ (.slice (some ⟨g5,0,none⟩) (L.length+1) c5)):=
  (Frm.of_grown (X:=λk=>k=wb\/(Value.slice px L.length pc).ownBlock=some k) hi λk e=>Or.inr e).trans hl λk _ e=>Or.inl e
 have h2:ue w5 wb (.slice px L.length pc) l1 l3:=(hi.block wb (by rw[hb];omega) (λe=>by have:=(h9 wb e.symm).2;omega)).trans ha.lw
 have hd: ∀(k:Nat) (cs:List Value) (t:TypeId),(w4.alloc (jh gb rb)).heap[k]?=some (.cells cs.toArray t (0,0))->t≠61->t≠66-> ¬(k=wb\/(Value.slice px L.length pc).ownBlock=some k):=by
  intro k cs t hk n1 n2 e;rcases e with e|e
  ·exact qV hk ha.lw n1 e
  ·obtain⟨-,-,c2,d⟩:=qf ha.op k e
   rw[←Oo (xs:=c2)]at d;exact qV hk d n2 rfl
 have h5: ∀{v:Value} {t:TypeId} {n:Nat} {xs:List Value},(w4.alloc (jh gb rb)).ownsRow (wb+1) t 1 v n xs->t≠61->t≠66->(w5.setCell ⟨wb,0,none⟩ (.slice (some ⟨g5,0,none⟩) (L.length+1) c5)).ownsRow (wb+1) t 1 v n xs:=λo n1 n2=>qF o λk hk=>by
  obtain⟨a,-,c2,d⟩:=qf o k hk;refine hf.block k a (hd k c2.toList _ ?_ n1 n2);rw[Oo];exact d
 have h7: ∀(j:Nat) (q:PA),(L++[p])[j]?=some q->(j<L.length/\L[j]?=some q)\/(j=L.length/\q=p):=by
  intro j q hq;rcases Uh j L.length with e|e
  ·rw[Oz e]at hq
   exact Or.inl ⟨e,hq⟩
  ·have hj:=(OE.1 hq).1
   simp at hj;have e:j=L.length:=by omega
   subst e;rw[show(L++[p])[L.length]?=some p by simp]at hq
   injection hq with hq;exact Or.inr ⟨rfl,hq.symm⟩
 have h1: ∀q∈L++[p],q∈L\/q=p:=λq hq=>(OS.1 hq).imp id λe=>by simpa using e
 refine⟨g5,c5,w5,h8,qa h2 (j:=0) rfl,qd h2 0,qL h2 0 _,?_,h5 ha.o1 (by decide) (by decide),h5 ha.o3 (by decide) (by decide),h.sep,λq hq=>?_,λa b q q2 e1 e2 hp k hk h0=>?_,λq hq k hk=>?_,λq hq k hk=>?_,λu hu k hk=>?_,h.three,λk u hu=>?_,λk j u a b c=>?_,?_,h.wbB⟩
 ·rw[OK,OR,show[p].map (λp=>Value.pointer (some ⟨p.pb,0,none⟩))=[Value.pointer (some ⟨w4.heap.size,0,none⟩)] by rw[←hs];rfl]
  exact qF h6 λk hk=>Ot _ _ _ _ (by have:=(qf h6 k hk).2.1;show k≠wb;omega)
 ·rcases h1 q hq with e|e
  ·exact(ha.pairs q e).keep hf λk hk e2=>by
    rcases e2 with e2|e2
    ·exact(h.own q e k hk).1 e2
    ·exact(h.own q e k hk).2.1 e2
  ·rw[e]
   refine hP.keep hf λk hk e2=>?_;have:=hF k hk;rcases e2 with e2|e2
   ·omega
   ·have:=h9 k e2;omega
 ·rcases h7 a q e1 with⟨a1,a2⟩|⟨a1,a2⟩<;>rcases h7 b q2 e2 with⟨b1,b2⟩|⟨b1,b2⟩
  ·exact h.dis a b q q2 a2 b2 hp k hk h0
  ·rw[b2]at h0
   have:=(h.pairs q (OZ a2)).lt k hk;have:=hF k h0;omega
  ·rw[a2]at hk
   have:=(h.pairs q2 (OZ b2)).lt k h0;have:=hF k hk;omega
  ·omega
 ·rcases h1 q hq with e|e
  ·obtain⟨a1,a2,a3,a4⟩:=h.own q e k hk
   have hy:=(h.pairs q e).lt k hk;refine⟨a1,λe2=>?_,a3,a4⟩;rcases h3 k e2 with e2|e2
   ·exact a2 e2
   ·omega
  ·rw[e]at hk
   have h0:=hF k hk;refine⟨by omega,λe2=>?_,λe2=>?_,λe2=>?_⟩
   ·rcases h3 k e2 with e2|e2
    ·have:=h9 k e2;omega
    ·omega
   ·have:=(qf h.o1 k e2).1;omega
   ·have:=(qf h.o3 k e2).1;omega
 ·rcases h1 q hq with e|e
  ·exact h.fB q e k hk
  ·rw[e]at hk
   have:=hF k hk;omega
 ·obtain⟨q1,q2⟩:=h.lst u hu k hk
  have hr:=hf.size;rw[hb]at hr;refine⟨by omega,λq hq h0=>?_⟩
  rcases h1 q hq with e|e
  ·exact q2 q e h0
  ·rw[e]at h0
   have:=hF k h0;omega
 ·exact(ha.full1 k u hu).keep λg hg=>by
   obtain⟨cur,hc⟩:=dp (ha.full1 k u hu) hg;exact hf.block g (qc hc) (hd g cur _ hc (by decide) (by decide))
 ·exact(ha.full3 k j u a b c).keep λg hg=>by
   obtain⟨cur,hc⟩:=sq (ha.full3 k j u a b c) hg;exact hf.block g (qc hc) (hd g cur _ hc (by decide) (by decide))
 ·refine Frm.below ha.below hf ha.below.size λk _ e=>?_
  have:=h.wbB;rcases e with e|e
  ·omega
  ·have:=(h9 k e).2;omega
def xU(W:World)(wb:Nat)(V:Int)(L:List PA)(l1 l3:Value)(us ws:List Value)(xs:List BA)(wk qu:Int)(e:Ending)(w':World):Prop:=
 ∃pv' L',e=.returned (.bool true)/\LA W w' wb V L' pv' l1 l3 us ws/\((zB xs wk qu≠none/\L'=L)\/(zB xs wk qu=none/\ ∃p,L'=L++[p]/\p.xs=xs/\p.now=[]/\p.g.ver=0/\p.g.cl=false))
theorem xU.err(h:LA W w wb V L pv l1 l3 us ws)(hb:Below w.heap.size w w4)(hr:zB xs wk qu≠none)(e:Ending)(he:e=.returned (.bool true)):xU W wb V L l1 l3 us ws xs wk qu e w4:=
 ⟨pv,L,he,h.later hb,Or.inl ⟨hr,rfl⟩⟩
theorem j6(hb:Below w.heap.size w w2)(hk:w2.grownBy w3 (some w.heap.size)):Below w.heap.size w w3:=hb.grown hk hb.size (λj hj=>by injection hj with hj;omega)
theorem dz(h:LA W w wb V L (.slice px L.length pc) l1 l3 us ws)(h4:0<=V/\L.length<=8796093022208)(h1:zB xs wk qu=none)
  (h6:w.heap.size<=lo) (h2:lo<=w3.heap.size) (h7:pI xs wk.toNat qu lo w3 gb) (h3:Below w.heap.size w w3) (h5:Below w3.heap.size w3 w4) (h8:mW xs wk.toNat qu w3 w4 rb):
  w4.cell? ⟨wb,0,none⟩=some (.slice px L.length pc)/\ ∃g5 c5 w5,(Builtin.append_ #[58,58] 58 #[.slice px L.length pc,.slice (some ⟨w4.heap.size+1,0,none⟩) 1 1]).run prog ((w4.alloc (.cells #[.pointer (some ⟨gb,0,none⟩),.pointer (some ⟨rb,0,none⟩)] 65)).alloc (.cells #[.pointer (some ⟨w4.heap.size,0,none⟩)] 66))=.ok (.slice (some ⟨g5,0,none⟩) (L.length+1) c5) w5/\
   w5.cell? ⟨wb,0,none⟩=some (.slice px L.length pc)/\w5.frozen? ⟨wb,0,none⟩=false/\
   xU W wb V L l1 l3 us ws xs wk qu (.returned (.bool true)) (w5.setCell ⟨wb,0,none⟩ (.slice (some ⟨g5,0,none⟩) (L.length+1) c5)):=by
 have h9:W.heap.size<=w.heap.size:=h.below.size;have h0:Below w.heap.size w w4:=h3.trans (h5.mono h3.size);obtain⟨p,e1,e2,e3,e4,e5,hP,hF⟩:=Y9 (B:=W.heap.size) h4.1 h2 (Ue h9 h6) h7 h5 h8;refine⟨qa (h.later h0).lw (j:=0) rfl,?_⟩;obtain⟨g5,c5,w5,a1,a2,a3,a4⟩:=h.addPair h0 h4.2 e1 hP λk hk=>⟨Ue h6 (hF k hk).1,(hF k hk).2⟩;exact⟨g5,c5,w5,a1,a2,a3,_,_,rfl,a4,Or.inr ⟨h1,p,rfl,e2,e3,e4,e5⟩⟩
variable{c:Int}
theorem nX(hS:LA W w wb V L pv l1 l3 us ws)(b off cap:Nat)(xs:List BA)(wk qu:Int)(hc: ∀i x,xs[i]?=some x->w.cell? ⟨b,off+i,none⟩=some (.string x))(hk:b<w.heap.size)(hl:xs.length<=8796093022208)(h9: ∀x∈xs,x.size<=maxLen)(h2:zB xs wk qu=some (k,c)):
  Calls prog 33 #[.pointer (some ⟨wb,0,none⟩),.slice (some ⟨b,off,none⟩) xs.length cap,.int .i64 wk,.int .i64 qu] w (xU W wb V L l1 l3 us ws xs wk qu):=by
 have h6:Hid (xs.length<=maxLen):=by show _<=_;unfold maxLen;omega
 have hb:Hid (∀x∈xs,x.size<=maxLen):=h9;have hf:Hid (xs.length<=8796093022208):=hl;have HC:Hid (∀i x,xs[i]?=some x->w.cell? ⟨b,off+i,none⟩=some (.string x)):=hc;have he:Hid (Calls prog 68 #[.slice (some ⟨b,off,none⟩) xs.length cap] w _):=gt b off cap xs w hc hl;have HS:Hid (LA W w wb V L pv l1 l3 us ws):=hS;have h3:Hid (zB xs wk qu=some (k,c)):=h2;have h7:Hid (b≠w.heap.size):=by show _≠_;omega
 have hj:(c !=0)=true:=by simpa using cq h2
 have hn:(c !=c)=false:=by simp
 have hm:((k:Int) !=(k:Int))=false:=by simp
 clear hS hc hl h9 h2;go_enter func33,ntmps33
 go_wp2_with(first|(go_at_call 68;refine he.out.mono ?_;rintro e w1 ⟨rfl,h1,h8⟩;have hg:qE w1 (.slice (some ⟨w.heap.size,0,none⟩) xs.length (xs.length+8)) xs:=bM h1)|(go_at_call 26;refine(pV _ xs wk qu w1 hg h6.out h3.out).mono ?_;rintro e w2 ⟨rfl,ha⟩;have h0:Below w.heap.size w w2:=h8.trans (ha.mono h8.size);have h4:zK w2 w.heap.size (xs++List.replicate 8 zQ):=cV h1 ha)|(go_at_call 69;refine(oQ b off cap w.heap.size xs w2 (λi x hx=>(h0.cell (qp (HC.out i x hx))).trans (HC.out i x hx)) h7.out hf.out h4).mono ?_;rintro e w3 ⟨rfl,h5⟩;have hi:qE w3 (.slice (some ⟨b,off,none⟩) xs.length cap) xs:=Or.inr ⟨b,off,cap,rfl,λi x hx=>((zR h5).1 b (off+i) (qp ((h0.cell (qp (HC.out i x hx))).trans (HC.out i x hx))) h7.out).trans ((h0.cell (qp (HC.out i x hx))).trans (HC.out i x hx))⟩)|(go_at_call 70;refine(a8 _ xs wk qu w3 hi h6.out hb.out h3.out).mono ?_;rintro e w4 ⟨rfl,hd⟩))
 go_ret;exact xU.err HS.out ((j6 h0 h5).trans (hd.mono (j6 h0 h5).size)) (by rw[h3.out];exact λe=>by cases e) _ rfl
theorem eO(hS:LA W w wb V L pv l1 l3 us ws)(hV:0<=V)(hn:L.length<=8796093022208)(b off cap:Nat)(xs:List BA)(wk qu:Int)(hc: ∀i x,xs[i]?=some x->w.cell? ⟨b,off+i,none⟩=some (.string x))(hu:b<w.heap.size)(hl:xs.length<=8796093022208)(hg: ∀x∈xs,x.size<=maxLen)(h3:zB xs wk qu=none):
  Calls prog 33 #[.pointer (some ⟨wb,0,none⟩),.slice (some ⟨b,off,none⟩) xs.length cap,.int .i64 wk,.int .i64 qu] w (xU W wb V L l1 l3 us ws xs wk qu):=by
 have hd:Hid (xs.length<=maxLen):=by show _<=_;unfold maxLen;omega
 have hk:Hid (∀x∈xs,x.size<=maxLen):=hg;have ho:Hid (xs.length<=8796093022208):=hl;have HC:Hid (∀i x,xs[i]?=some x->w.cell? ⟨b,off+i,none⟩=some (.string x)):=hc;have hm:Hid (Calls prog 68 #[.slice (some ⟨b,off,none⟩) xs.length cap] w _):=gt b off cap xs w hc hl;have HS:Hid (LA W w wb V L pv l1 l3 us ws):=hS;have h2:Hid (zB xs wk qu=none):=h3;have hf:Hid (b≠w.heap.size):=by show _≠_;omega
 have ht:Hid (0<=V/\L.length<=8796093022208):=⟨hV,hn⟩;obtain⟨px,pc,rfl⟩:=qz hS.op;clear hS hc hl hg h3 hn hV;go_enter func33,ntmps33
 go_wp2_with(first|(go_at_call 68;refine hm.out.mono ?_;rintro e w1 ⟨rfl,h0,h7⟩;have hq:qE w1 (.slice (some ⟨w.heap.size,0,none⟩) xs.length (xs.length+8)) xs:=bM h0)|(go_at_call 26;refine(pJ _ xs wk qu w1 hq hd.out h2.out).mono ?_;rintro e w2 ⟨gb,rfl,hb,h8⟩;have h1:Below w.heap.size w w2:=h7.trans (hb.mono h7.size);have h5:zK w2 w.heap.size (xs++List.replicate 8 zQ):=cV h0 hb)|(go_at_call 69;refine(oQ b off cap w.heap.size xs w2 (λi x hx=>(h1.cell (qp (HC.out i x hx))).trans (HC.out i x hx)) hf.out ho.out h5).mono ?_;rintro e w3 ⟨rfl,h6⟩;have hs:qE w3 (.slice (some ⟨b,off,none⟩) xs.length cap) xs:=Or.inr ⟨b,off,cap,rfl,λi x hx=>((zR h6).1 b (off+i) (qp ((h1.cell (qp (HC.out i x hx))).trans (HC.out i x hx))) hf.out).trans ((h1.cell (qp (HC.out i x hx))).trans (HC.out i x hx))⟩)|(go_at_call 70;refine(aT _ xs wk qu w3 hs hd.out hk.out h2.out).mono ?_;rintro e w4 ⟨rb,rfl,hj,ha⟩;obtain⟨he,g5,c5,w5,h9,hy,hv,hi⟩:=dz HS.out ht.out h2.out h7.size (Ue hb.size h6.size) (h8.kept (qc h0) h6) (j6 h1 h6) hj ha;have hr:Hid (xU W wb V L l1 l3 us ws xs wk qu (.returned (.bool true)) (w5.setCell ⟨wb,0,none⟩ (.slice (some ⟨g5,0,none⟩) (L.length+1) c5))):=hi;clear hi;have h4:=λo=>(World.cell?_of_block (a:=⟨wb,0,none⟩) (Oq w4 o wb (qp he))).trans he;have hp:=λo o'=>(World.cell?_of_block (a:=⟨wb,0,none⟩) (Oq (w4.alloc o) o' wb (qp (h4 o)))).trans (h4 o))|(at_builtin;refine qo rfl (.tmp 66) (.tmp 71) 58 rfl _ _ _ rfl rfl h9 ?_))
 go_ret;exact hr.out
theorem mB(a:Addr)(wk qu:Int)(w:World)(hr:zB [] wk qu=none):
  Calls prog 70 #[.slice (some a) 0 0,.int .i64 wk,.int .i64 qu] w λe w'=> ∃b,e=.returned (.tuple #[.pointer (some ⟨b,0,none⟩),.int .i64 0,.int .i64 0])/\Below w.heap.size w w'/\mW [] wk.toNat qu w w' b:=
 (oG a wk qu w).mono λ_ _ hp=>Kx hp hr
theorem mC(hS:LA W w wb V L pv l1 l3 us ws)(wk qu:Int)(h0:zB [] wk qu=some (k,c)):
  Calls prog 33 #[.pointer (some ⟨wb,0,none⟩),.slice none 0 0,.int .i64 wk,.int .i64 qu] w (xU W wb V L l1 l3 us ws [] wk qu):=by
 have HS:Hid (LA W w wb V L pv l1 l3 us ws):=hS;have h1:Hid (zB [] wk qu=some (k,c)):=h0;have h4:(c !=0)=true:=by simpa using cq h0
 have h6:(c !=c)=false:=by simp
 have h5:((k:Int) !=(k:Int))=false:=by simp
 clear hS h0;go_enter func33,ntmps33
 go_wp2_with(first|(go_at_call 68;refine(gp w).mono ?_;rintro e w1 ⟨rfl,rfl⟩)|(go_at_call 26;refine(pV _ [] wk qu _ (Or.inl ⟨rfl,rfl⟩) (Um _) h1.out).mono ?_;rintro e w2 ⟨rfl,h2⟩)|(go_at_call 69;refine(oP w2).mono ?_;rintro e w3 ⟨rfl,rfl⟩)|(go_at_call 70;refine(a8 _ [] wk qu _ (Or.inl ⟨rfl,rfl⟩) (Um _) (λx hx=>absurd hx O4) h1.out).mono ?_;rintro e w4 ⟨rfl,h3⟩))
 go_ret;exact xU.err HS.out (h2.trans (h3.mono h2.size)) (by rw[h1.out];exact λe=>by cases e) _ rfl
theorem mX(hS:LA W w wb V L pv l1 l3 us ws)(hV:0<=V)(hn:L.length<=8796093022208)(wk qu:Int)(h1:zB [] wk qu=none):
  Calls prog 33 #[.pointer (some ⟨wb,0,none⟩),.slice none 0 0,.int .i64 wk,.int .i64 qu] w (xU W wb V L l1 l3 us ws [] wk qu):=by
 have HS:Hid (LA W w wb V L pv l1 l3 us ws):=hS;have h0:Hid (zB [] wk qu=none):=h1;have hc:Hid (0<=V/\L.length<=8796093022208):=⟨hV,hn⟩;obtain⟨px,pc,rfl⟩:=qz hS.op;clear hS h1 hn hV;go_enter func33,ntmps33
 go_wp2_with(first|(go_at_call 68;refine(gp w).mono ?_;rintro e w1 ⟨rfl,rfl⟩)|(go_at_call 26;refine(pJ _ [] wk qu w1 (Or.inl ⟨rfl,rfl⟩) (Um _) h0.out).mono ?_;rintro e w2 ⟨gb,rfl,h6,h3⟩)|(go_at_call 69;refine(oP w2).mono ?_;rintro e w3 ⟨rfl,rfl⟩)|(go_at_call 70;refine(aT _ [] wk qu w3 (Or.inl ⟨rfl,rfl⟩) (Um _) (λx hx=>absurd hx O4) h0.out).mono ?_;rintro e w4 ⟨rb,rfl,h9,h5⟩;obtain⟨h8,g5,c5,w5,h4,hd,he,h7⟩:=dz HS.out hc.out h0.out (Uc _) h6.size h3 h6 h9 h5;have hb:Hid (xU W wb V L l1 l3 us ws [] wk qu (.returned (.bool true)) (w5.setCell ⟨wb,0,none⟩ (.slice (some ⟨g5,0,none⟩) (L.length+1) c5))):=h7;clear h7;have h2:=λo=>(World.cell?_of_block (a:=⟨wb,0,none⟩) (Oq w4 o wb (qp h8))).trans h8;have ha:=λo o'=>(World.cell?_of_block (a:=⟨wb,0,none⟩) (Oq (w4.alloc o) o' wb (qp (h2 o)))).trans (h2 o))|(at_builtin;refine qo rfl (.tmp 66) (.tmp 71) 58 rfl _ _ _ rfl rfl h4 ?_))
 go_ret;exact hb.out
theorem aS(hS:LA W w wb V L pv l1 l3 us ws)(a:Addr)(wk qu:Int)(h0:zB [] wk qu=some (k,c)):
  Calls prog 33 #[.pointer (some ⟨wb,0,none⟩),.slice (some a) 0 0,.int .i64 wk,.int .i64 qu] w (xU W wb V L l1 l3 us ws [] wk qu):=by
 have h9:Hid (Calls prog 68 #[.slice (some a) 0 0] w _):=dH a w;have HS:Hid (LA W w wb V L pv l1 l3 us ws):=hS;have h1:Hid (zB [] wk qu=some (k,c)):=h0;have hb:(c !=0)=true:=by simpa using cq h0
 have hd:(c !=c)=false:=by simp
 have hc:((k:Int) !=(k:Int))=false:=by simp
 clear hS h0;go_enter func33,ntmps33
 go_wp2_with(first|(go_at_call 68;refine h9.out.mono ?_;rintro e w1 ⟨rfl,h3,h7⟩;have ha:qE w1 (.slice (some ⟨w.heap.size,0,none⟩) 0 8) []:=sO _ _ _)|(go_at_call 26;refine(pV _ [] wk qu w1 ha (Um _) h1.out).mono ?_;rintro e w2 ⟨rfl,h6⟩;have h4:Below w.heap.size w w2:=h7.trans (h6.mono h7.size);have h2:zK w2 w.heap.size (List.replicate 8 zQ):=cV h3 h6)|(go_at_call 69;refine(pW a w.heap.size w2 h2).mono ?_;rintro e w3 ⟨rfl,h5⟩)|(go_at_call 70;refine(mG a wk qu w3 h1.out).mono ?_;rintro e w4 ⟨rfl,h8⟩))
 go_ret;exact xU.err HS.out ((j6 h4 h5).trans (h8.mono (j6 h4 h5).size)) (by rw[h1.out];exact λe=>by cases e) _ rfl
theorem mE(hS:LA W w wb V L pv l1 l3 us ws)(hV:0<=V)(hn:L.length<=8796093022208)(a:Addr)(wk qu:Int)(h3:zB [] wk qu=none):
  Calls prog 33 #[.pointer (some ⟨wb,0,none⟩),.slice (some a) 0 0,.int .i64 wk,.int .i64 qu] w (xU W wb V L l1 l3 us ws [] wk qu):=by
 have hk:Hid (Calls prog 68 #[.slice (some a) 0 0] w _):=dH a w;have HS:Hid (LA W w wb V L pv l1 l3 us ws):=hS;have h1:Hid (zB [] wk qu=none):=h3;have hj:Hid (0<=V/\L.length<=8796093022208):=⟨hV,hn⟩;obtain⟨px,pc,rfl⟩:=qz hS.op;clear hS h3 hn hV;go_enter func33,ntmps33
 go_wp2_with(first|(go_at_call 68;refine hk.out.mono ?_;rintro e w1 ⟨rfl,h0,h5⟩;have hg:qE w1 (.slice (some ⟨w.heap.size,0,none⟩) 0 8) []:=sO _ _ _)|(go_at_call 26;refine(pJ _ [] wk qu w1 hg (Um _) h1.out).mono ?_;rintro e w2 ⟨gb,rfl,hb,h7⟩;have h6:Below w.heap.size w w2:=h5.trans (hb.mono h5.size);have h2:zK w2 w.heap.size (List.replicate 8 zQ):=cV h0 hb)|(go_at_call 69;refine(pW a w.heap.size w2 h2).mono ?_;rintro e w3 ⟨rfl,h8⟩)|(go_at_call 70;refine(mB a wk qu w3 h1.out).mono ?_;rintro e w4 ⟨rb,rfl,he,ha⟩;obtain⟨hd,g5,c5,w5,h9,hl,hm,hc⟩:=dz HS.out hj.out h1.out h5.size (Ue hb.size h8.size) (h7.kept (qc h0) h8) (j6 h6 h8) he ha;have hi:Hid (xU W wb V L l1 l3 us ws [] wk qu (.returned (.bool true)) (w5.setCell ⟨wb,0,none⟩ (.slice (some ⟨g5,0,none⟩) (L.length+1) c5))):=hc;clear hc;have h4:=λo=>(World.cell?_of_block (a:=⟨wb,0,none⟩) (Oq w4 o wb (qp hd))).trans hd;have hf:=λo o'=>(World.cell?_of_block (a:=⟨wb,0,none⟩) (Oq (w4.alloc o) o' wb (qp (h4 o)))).trans (h4 o))|(at_builtin;refine qo rfl (.tmp 66) (.tmp 71) 58 rfl _ _ _ rfl rfl h9 ?_))
 go_ret;exact hi.out
theorem oh(hS:LA W w wb V L pv l1 l3 us ws)(hV:0<=V)(hn:L.length<=8796093022208)(v:Value)(xs:List BA)(wk qu:Int)(ht:pX w v xs)(hl:xs.length<=8796093022208)(h0: ∀x∈xs,x.size<=maxLen):
  Calls prog 33 #[.pointer (some ⟨wb,0,none⟩),v,.int .i64 wk,.int .i64 qu] w (xU W wb V L l1 l3 us ws xs wk qu):=by
 rcases ht with⟨rfl,rfl⟩|⟨a,rfl,rfl⟩|⟨b,off,cap,rfl,hb,hc⟩<;>cases hr:zB _ wk qu
 ·exact mX hS hV hn wk qu hr
 ·exact mC hS wk qu hr
 ·exact mE hS hV hn a wk qu hr
 ·exact aS hS a wk qu hr
 ·exact eO hS hV hn b off cap xs wk qu hc hb hl h0 hr
 ·exact nX hS b off cap xs wk qu hc hb hl h0 hr
def qw(W:World)(wb:Nat)(V:Int)(L:List PA)(us:List Value)(e:Ending)(w':World):Prop:=
 e=.returned (.bool true)/\ ∃L' pv' l1' l3' us' ws',LA W w' wb (V+1) L' pv' l1' l3' us' ws'/\L.length<=L'.length/\L'.length<=L.length+1/\us'.length<=us.length+1
def opL(k g n m:Int)(s:BA)(tv:Value):List Value:=[.int .i64 k,.int .i64 g,.int .i64 n,.int .i64 m,.string s,tv]
structure MidA(w0:World)(p:PA)(k g n m:Int)(s:BA)(tv:Value)(w2:World):Prop where
 pair:w2.heap[p.pb]?=some (.cells [Value.pointer (some ⟨p.gb,0,none⟩),.pointer (some ⟨p.rb,0,none⟩)].toArray 65 (0,0))
 op:w2.heap[w0.heap.size]?=some (.cells (opL k g n m s tv).toArray 69 (0,0))
theorem dZ(h0:PairA B V p w0)(h:PairA B V p w1){k g n m:Int}{tv:Value}(ho:w1.heap[w0.heap.size]?=some (.cells (opL k g n m s tv).toArray 69 (0,0)))(hf:Frm (λk=>p.Q k\/k=p.gb) w1 w2):MidA w0 p k g n m s tv w2:=by
 refine⟨(hf.block _ (h.klt _ h.mem.pb) ?_).trans h.doc.pair,(hf.block _ (qc ho) ?_).trans ho⟩
 ·obtain⟨d1,-,d3,-⟩:=h.dis _ h.mem.pb
  rintro(e|e)
  ·exact d1 e
  ·exact d3 e
 ·rintro(e|e)
  ·have:=h0.lt _ (Or.inl e);omega
  ·have:=h0.lt p.gb (Or.inr (Or.inr (Or.inl rfl)));omega
theorem oi(h:LA W w wb V L pv l1 l3 us ws)(hi:L[i]?=some p)(hp:PaP W.heap.size V p w w3):qw W wb V L us (.returned (.bool true)) w3:=by
 obtain⟨L',hl,h'⟩:=h.turn hi (Int.le_refl _) hp;exact⟨rfl,L',pv,l1,l3,us,ws,h'.more (by omega),by omega,by omega,Ud _⟩
theorem Q3(HW:Hid xh)(hS:LA W w wb V L pv l1 l3 us ws)(hi:L[i]?=some p)(k g n m:Int)(s:BA)(tv:Value):
  ∀w1,Below w.heap.size w w1->w1.heap[w.heap.size]?=some (.cells (opL k g n m s tv).toArray 69 (0,0))->Calls prog 28 #[.pointer (some ⟨p.gb,0,none⟩),.int .i64 n] w1 λe w2=> ∃a:Int,e=.returned (.int .i64 a)/\MidA w p k g n m s tv w2/\
  Hid (∀w2',Below w2.heap.size w2 w2'->Calls prog 124 #[.pointer (some ⟨p.rb,0,none⟩),.int .i64 n] w2' λe w3=>e=.returned (.int .i64 a)/\qw W wb V L us (.returned (.bool true)) w3):=by
 intro w1 hb ho;have hm:=OZ hi;have h0:=hS.pairs p hm;have h1:=hS.later hb;have hp:=h1.pairs p hm;refine(KK HW hp h1.below.size n).mono ?_;rintro e w2 ⟨a,rfl,HF,HC⟩;refine⟨a,rfl,dZ h0 hp ho HF.out,λw2' h2=>?_⟩;refine(HC.out w2' h2).mono ?_;rintro e w3 ⟨rfl,hP⟩;exact⟨rfl,oi h1 hi hP⟩
theorem Q4(hS:LA W w wb V L pv l1 l3 us ws)(hi:L[i]?=some p)(k g n m:Int)(s:BA)(tv:Value):
  ∀w1,Below w.heap.size w w1->w1.heap[w.heap.size]?=some (.cells (opL k g n m s tv).toArray 69 (0,0))->Calls prog 31 #[.pointer (some ⟨p.gb,0,none⟩)] w1 λe w2=>e=.returned (.tuple #[])/\MidA w p k g n m s tv w2/\
  Hid (∀w2',Below w2.heap.size w2 w2'->Calls prog 125 #[.pointer (some ⟨p.rb,0,none⟩)] w2' λe w3=>e=.returned (.tuple #[])/\qw W wb V L us (.returned (.bool true)) w3):=by
 intro w1 hb ho;have hm:=OZ hi;have h0:=hS.pairs p hm;have h1:=hS.later hb;have hp:=h1.pairs p hm;refine(KJ hp h1.below.size).mono ?_;rintro e w2 ⟨rfl,HF,HC⟩;refine⟨rfl,dZ h0 hp ho HF.out,λw2' h2=>?_⟩;refine(HC.out w2' h2).mono ?_;rintro e w3 ⟨rfl,hP⟩;exact⟨rfl,oi h1 hi hP⟩
theorem nY(hS:LA W w wb V L pv l1 l3 us ws)(hi:L[i]?=some p)(k g n m:Int)(s:BA)(tv:Value):
  ∀w1,Below w.heap.size w w1->w1.heap[w.heap.size]?=some (.cells (opL k g n m s tv).toArray 69 (0,0))->Calls prog 30 #[.pointer (some ⟨p.gb,0,none⟩),.int .i64 n] w1 λe w2=> ∃a:Bool,e=.returned (.bool a)/\MidA w p k g n m s tv w2/\
  Hid (∀w2',Below w2.heap.size w2 w2'->Calls prog 126 #[.pointer (some ⟨p.rb,0,none⟩),.int .i64 n] w2' λe w3=>e=.returned (.bool a)/\qw W wb V L us (.returned (.bool true)) w3):=by
 intro w1 hb ho;have hm:=OZ hi;have h0:=hS.pairs p hm;have h1:=hS.later hb;have hp:=h1.pairs p hm;refine(Xx hp h1.below.size n).mono ?_;rintro e w2 ⟨a,rfl,HF,HC⟩;refine⟨a,rfl,dZ h0 hp ho HF.out,λw2' h2=>?_⟩;refine(HC.out w2' h2).mono ?_;rintro e w3 ⟨rfl,hP⟩;exact⟨rfl,oi h1 hi hP⟩
theorem eP(hS:LA W w wb V L pv l1 l3 us ws)(hi:L[i]?=some p)(k g n m:Int)(s:BA)(tv:Value):
  ∀w1,Below w.heap.size w w1->w1.heap[w.heap.size]?=some (.cells (opL k g n m s tv).toArray 69 (0,0))->Calls prog 32 #[.pointer (some ⟨p.gb,0,none⟩)] w1 λe w2=>e=.returned (.tuple #[])/\MidA w p k g n m s tv w2/\
  Hid (∀w2',Below w2.heap.size w2 w2'->Calls prog 128 #[.pointer (some ⟨p.rb,0,none⟩)] w2' λe w3=>e=.returned (.tuple #[])/\qw W wb V L us (.returned (.bool true)) w3):=by
 intro w1 hb ho;have hm:=OZ hi;have h0:=hS.pairs p hm;have h1:=hS.later hb;have hp:=h1.pairs p hm;refine(Y7 hp h1.below.size).mono ?_;rintro e w2 ⟨rfl,HF,HC⟩;refine⟨rfl,dZ h0 hp ho HF.out,λw2' h2=>?_⟩;refine(HC.out w2' h2).mono ?_;rintro e w3 ⟨rfl,hP⟩;exact⟨rfl,oi h1 hi hP⟩
