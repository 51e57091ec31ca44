import Derived.Test.YtalmoiogbdahcaaGreatANedA
open Go.Proofs.Tryz
namespace Go.Proofs.YtalmoiogbdahcaaGreat
set_option maxRecDepth 100000
set_option maxHeartbeats 8000000
open Go.RowKit Go.Shelf
structure Dk where
 qu:Int
 clock:Int
 rs:List Rq
 wk:List (Option Nat)
structure Rl where
 rb:Nat
 P:Nat->Prop
 uv:Value
 tp:Value
def rlV(l:Rl):Value:=.pointer (some ⟨l.rb,0,none⟩)
def wkV(ls:List Rl):Option Nat->Value
 |none=>.pointer none
 |some j=>(ls[j]?.map rlV).getD (.pointer none)
theorem vp(ls:List Rl)(j:Nat):wkV ls (some j)=(ls[j]?.map rlV).getD (.pointer none):=rfl
structure DkOk(D:Dk):Prop where
 w1:1<=D.wk.length
 w4:D.wk.length<=4
 rl:D.rs.length<=30
 c0:0<=D.clock
 c9:D.clock<=1000000000
 q1:1<=D.qu
 q6:D.qu<=6
 wj: ∀i j:Nat,D.wk[i]?=some (some j)->j<D.rs.length
def DkW(D:Dk):Prop:= ∀(i j:Nat) (r:Rq),D.wk[i]?=some (some j)->D.rs[j]?=some r->r.tk≠none
structure DkAt(xs:List BA)(mr:Nat)(R:Nat->Prop)(db:Nat)(Q:Nat->Prop)(D:Dk)(tv:Value)(wb:Nat)(ls:List Rl)(w:World):Prop where
 blk:w.heap[db]?=some (.cells (aG D.qu D.clock tv (.slice (some ⟨wb,0,none⟩) D.wk.length D.wk.length)).toArray 157 (0,0))
 row:w.ownsRow 0 158 1 tv ls.length (ls.map rlV)
 wrow:w.heap[wb]?=some (.cells (D.wk.map (wkV ls)).toArray 158 (0,0))
 len:ls.length=D.rs.length
 at': ∀(i:Nat) (l:Rl) (r:Rq),ls[i]?=some l->D.rs[i]?=some r->RqAt xs mr l.rb l.P r l.uv l.tp w
 sep: ∀(i j:Nat) (l l':Rl) (k:Nat),ls[i]?=some l->ls[j]?=some l'->l.P k->l'.P k->i=j
 inQ: ∀l∈ls,∀k,l.P k->Q k
 dQ:Q db
 wQ:Q wb
 tQ: ∀k,tv.ownBlock=some k->Q k
 dn: ∀l∈ls,¬l.P db
 wn: ∀l∈ls,¬l.P wb
 tn: ∀l∈ls,∀k,tv.ownBlock=some k-> ¬l.P k
 tw:tv.ownBlock≠some wb
 lt: ∀k,Q k->k<w.heap.size
 ok:DkOk D
 ru:Kpt R (λw=>zp w mr xs) w
 rq: ∀k,R k-> ¬Q k
variable{D:Dk}{Q R:Nat->Prop}{db mr wb:Nat}{ls:List Rl}{tv:Value}{w w':World}{xs:List BA}
theorem DkAt.keep(h:DkAt xs mr R db Q D tv wb ls w)(hs:w.heap.size<=w'.heap.size)(hk: ∀k,Q k->w'.heap[k]?=w.heap[k]?)(hr: ∀k,R k->w'.heap[k]?=w.heap[k]?):DkAt xs mr R db Q D tv wb ls w':=
 {h with blk:=(hk _ h.dQ).trans h.blk,row:=qF h.row λg hg=>hk g (h.tQ g hg),wrow:=(hk _ h.wQ).trans h.wrow,at':=λi l r hl hr'=>(h.at' i l r hl hr').keep hs (λk e=>hk k (h.inQ l (OZ hl) k e)) (h.ru.all w' hr),lt:=λk e=>Ug (h.lt k e) hs,ru:=h.ru.to hs hr}
theorem DkAt.below(h:DkAt xs mr R db Q D tv wb ls w)(hb:Below w.heap.size w w'):DkAt xs mr R db Q D tv wb ls w':=
 h.keep hb.size (λk hk=>hb.block k (h.lt k hk)) (λk hk=>hb.block k (h.ru.lt k hk))
theorem DkAt.wide{Q':Nat->Prop}(h:DkAt xs mr R db Q D tv wb ls w)(hq: ∀k,Q k->Q' k)(hl: ∀k,Q' k->k<w.heap.size)(hn: ∀k,R k-> ¬Q' k):DkAt xs mr R db Q' D tv wb ls w:=
 {h with inQ:=λl m k e=>hq k (h.inQ l m k e),dQ:=hq _ h.dQ,wQ:=hq _ h.wQ,tQ:=λk e=>hq k (h.tQ k e),lt:=hl,rq:=hn}
variable{i:Nat}{l l':Rl}
theorem KU(h:ls[i]?=some l)(hr:l'.rb=l.rb)(o:Option Nat):wkV (ls.set i l') o=wkV ls o:=by
 cases o with
 |none=>rfl
 |some j=>
  rw[vp,vp];have hi:=(OE.1 h).1;by_cases e:i=j
  ·subst e
   rw[OI hi,h];show rlV l'=rlV l
   unfold rlV;rw[hr]
  ·rw[OH e]
theorem KV(h:ls[i]?=some l)(hr:l'.rb=l.rb):(ls.set i l').map rlV=ls.map rlV:=by
 rw[List.map_set];have e:rlV l'=rlV l:=by unfold rlV;rw[hr]
 rw[e];apply List.ext_getElem?
 intro j;by_cases hj:i=j
 ·subst hj
  rw[OI (by rw[OM];exact(OE.1 h).1),OF,h];rfl
 ·rw[OH hj]
variable{r:Rq}
theorem DkAt.upd(h:DkAt xs mr R db Q D tv wb ls w){r':Rq}(hl:ls[i]?=some l)(hr:D.rs[i]?=some r)(hb:l'.rb=l.rb)(hf:Frm l.P w w')(hP: ∀k,l'.P k->more l.P w w' k)(hR:RqAt xs mr l'.rb l'.P r' l'.uv l'.tp w'):
  DkAt xs mr R db (more Q w w') {D with rs:=D.rs.set i r'} tv wb (ls.set i l') w':=by
 have hi:=(OE.1 hl).1;have hm:=OZ hl;have h3:Kpt R (λw=>zp w mr xs) w':=h.ru.frm hf λk hk e=>h.rq k hk (h.inQ l hm k e);have h6:zp w' mr xs:=h3.now;have h1: ∀a∈ls.set i l',a=l'\/a∈ls:=λa ha=>(List.mem_or_eq_of_mem_set ha).symm;refine⟨?_,?_,?_,?_,?_,?_,?_,Or.inl h.dQ,Or.inl h.wQ,λk e=>Or.inl (h.tQ k e),?_,?_,?_,h.tw,?_,?_,h3,λk hk e=>?_⟩
 ·exact(hf.block _ (qc h.blk) (h.dn l hm)).trans h.blk
 ·rw[KV hl hb,OO]
  exact qF h.row λg hg=>hf.block g (qf h.row g hg).1 (h.tn l hm g hg)
 ·have e:(λo=>wkV (ls.set i l') o)=wkV ls:=funext λo=>KU hl hb o
  show w'.heap[wb]?=some (.cells (D.wk.map (λo=>wkV (ls.set i l') o)).toArray _ _)
  rw[e];exact(hf.block _ (qc h.wrow) (h.wn l hm)).trans h.wrow
 ·rw[OO];show _=(D.rs.set i r').length;rw[OO];exact h.len
 ·intro j a b ha h0
  by_cases e:i=j
  ·subst e
   rw[OI hi]at ha;injection ha with ha;have h4:=(OE.1 hr).1;have h2:(D.rs.set i r')[i]?=some b:=h0;rw[OI h4]at h2;injection h2 with h2;rw[←ha,←h2];exact hR
  ·rw[OH e]at ha
   have h2:(D.rs.set i r')[j]?=some b:=h0;rw[OH e]at h2;refine(h.at' j a b ha h2).keep hf.size (λk hk=>hf.block k ((h.at' j a b ha h2).lt k hk) λhx=>e (h.sep i j l a k hl ha hx hk)) h6
 ·intro a b la lb k ha h0 pa pb
  by_cases ea:i=a
  ·by_cases eb:i=b
   ·exact ea.symm.trans eb
   ·subst ea
    rw[OI hi]at ha;injection ha with ha;rw[OH eb]at h0;rw[←ha]at pa;rcases hP k pa with e|e
    ·exact h.sep i b l lb k hl h0 e pb
    ·have:=h.lt k (h.inQ lb (OZ h0) k pb);omega
  ·rw[OH ea]at ha
   by_cases eb:i=b
   ·subst eb
    rw[OI hi]at h0;injection h0 with h0;rw[←h0]at pb;rcases hP k pb with e|e
    ·exact h.sep a i la l k ha hl pa e
    ·have:=h.lt k (h.inQ la (OZ ha) k pa);omega
   ·rw[OH eb]at h0
    exact h.sep a b la lb k ha h0 pa pb
 ·intro a ha k pa
  rcases h1 a ha with e|e
  ·rw[e]at pa
   rcases hP k pa with e|e
   ·exact Or.inl (h.inQ l hm k e)
   ·exact Or.inr e
  ·exact Or.inl (h.inQ a e k pa)
 ·intro a ha pa
  rcases h1 a ha with e|e
  ·rw[e]at pa
   rcases hP _ pa with e|e
   ·exact h.dn l hm e
   ·have:=h.lt _ h.dQ;omega
  ·exact h.dn a e pa
 ·intro a ha pa
  rcases h1 a ha with e|e
  ·rw[e]at pa
   rcases hP _ pa with e|e
   ·exact h.wn l hm e
   ·have:=h.lt _ h.wQ;omega
  ·exact h.wn a e pa
 ·intro a ha k hk pa
  rcases h1 a ha with e|e
  ·rw[e]at pa
   rcases hP _ pa with e|e
   ·exact h.tn l hm k hk e
   ·have:=h.lt _ (h.tQ k hk);omega
  ·exact h.tn a e k hk pa
 ·intro k hk
  rcases hk with e|e
  ·exact Ug (h.lt k e) hf.size
  ·exact e.2
 ·exact{h.ok with rl:=by show(D.rs.set i r').length<=30;rw[OO];exact h.ok.rl,wj:=λa b h5=>by show b<(D.rs.set i r').length;rw[OO];exact h.ok.wj a b h5}
 ·rcases e with e|e
  ·exact h.rq k hk e
  ·have:=h.ru.lt k hk;omega
def vF(r:Rq):Bool:=decide (r.is=1)
theorem vJ(a b:Int):(a==b)=decide (a=b):=by
 by_cases e:a=b
 ·rw[e];simp
 ·simp[e]
variable{rb:Nat}{tp uv:Value}
theorem aW(h:w.heap[rb]?=some (.cells (rqL r uv tp).toArray 161 (0,0))):
  Calls prog 162 #[.pointer (some ⟨rb,0,none⟩)] w λe w'=>e=.returned (.bool (vF r))/\w'=w:=by
 have c0:=qa h (j:=0) rfl;unfold vF;generalize r.is=is at *;clear h;go_enter func162,ntmps162;go_wp2;go_ret;exact⟨zo (vJ _ _),rfl⟩
variable{kb:Nat}
theorem Zn(h:w.heap[rb]?=some (.cells (rqL r uv (.pointer (some ⟨kb,0,none⟩))).toArray 161 (0,0))):
  Calls prog 114 #[.pointer (some ⟨rb,0,none⟩)] w λe w'=>e=.returned (.bool false)/\w'=w:=by
 have c0:=qa h (j:=4) rfl;clear h;go_enter func114,ntmps114;go_wp2;go_ret;exact⟨rfl,rfl⟩
theorem eY(h:w.heap[rb]?=some (.cells (rqL r uv (.pointer none)).toArray 161 (0,0))):
  Calls prog 114 #[.pointer (some ⟨rb,0,none⟩)] w λe w'=>e=.returned (.bool true)/\w'=w:=by
 have c0:=qa h (j:=4) rfl;clear h;go_enter func114,ntmps114;go_wp2;go_ret;exact⟨rfl,rfl⟩
variable{P:Nat->Prop}
theorem dB(h:RqAt xs mr rb P r uv tp w):
  Calls prog 114 #[.pointer (some ⟨rb,0,none⟩)] w λe w'=>e=.returned (.bool (!r.tk.isSome))/\w'=w:=by
 have hb:=h.blk;cases ht:r.tk with
 |none=>rw[h.no ht]at hb;exact eY hb
 |some t=>
  obtain⟨kb,wb,O,met,h1,-⟩:=h.tk t ht;rw[h1]at hb;exact Zn hb
theorem zu(w:World)(b i:Nat)(v:Value):Frm (λk=>k=b) w (w.setCell ⟨b,i,none⟩ v):=⟨rfl,rfl,rfl,by simp[World.setCell],λk _ hx=>Ot _ _ _ _ hx⟩
theorem yG(w:World)(a:Addr)(v:Value):(w.setCell a v).heap.size=w.heap.size:=by simp[World.setCell]
theorem cS(h:w.heap[rb]?=some (.cells (rqL r uv tp).toArray 161 (0,0)))(k:Int):
  Calls prog 115 #[.pointer (some ⟨rb,0,none⟩),.int .i64 k] w λe w'=>e=.returned (.tuple #[])/\w'.heap[rb]?=some (.cells (rqL (r.ended k) uv (.pointer none)).toArray 161 (0,0))/\Frm (λj=>j=rb) w w'/\w'.heap.size=w.heap.size:=by
 have c0:=qa h (j:=0) rfl;have c4:=qa h (j:=4) rfl;have HE:Hid (((w.setCell ⟨rb,0,none⟩ (.int .i64 k)).setCell ⟨rb,4,none⟩ (.pointer none)).heap[rb]?=some (.cells (rqL (r.ended k) uv (.pointer none)).toArray 161 (0,0))):=qL (qL h 0 _) 4 _;have h0:=qc h;generalize rqL (r.ended k) uv (.pointer none)=L at *;have f0:=qd h 0;have f4:=qd h 4;clear h;go_enter func115,ntmps115;go_wp2
 go_end0
 exact⟨rfl,HE.out,(zu _ _ _ _).trans (zu _ _ _ _) λ_ _ e=>e,by rw[yG,yG]⟩
def xA(rs:List Rq):Nat:=rs.countP vF
def y9(D:Dk):Bool:=decide (30<=D.rs.length)||decide (D.qu<=(xA D.rs:Nat))
def yT(rs:List Rq)(o:Option Nat):Option Nod:=o.bind λj=>rs[j]?.bind λr=>r.tk.map Tk.x
def yL(D:Dk)(x:Nod):Bool:=D.wk.any λo=>decide (yT D.rs o=some x)
def yP(D:Dk)(r:Rq):Bool:=vF r && (match r.tk with
 |none=>false
 |some t=> !yL D t.x)
def xY(D:Dk)(i:Nat):Dk:=match D.rs.findIdx? (yP D)with
 |none=>D
 |some j=>{D with rs:=D.rs.modify j λr=>{r with is:=2},wk:=D.wk.set i (some j)}
def ux(rs:List Rq)(j:Nat):Bool:=match rs[j]? with
 |none=>false
 |some r=>r.tk.isSome
def ym(rs:List Rq)(o:Option Nat):Option Nat:=o.bind λj=>if ux rs j=true then some j else none
def xp(D:Dk):Dk:={D with wk:=D.wk.map (ym D.rs)}
def pO(D:Dk)(t:Tk):Dk:={D with rs:=D.rs++[xF D.clock ⟨1,0,false,[],some t⟩]}
def uz(D:Dk):Int:=min (D.clock+1) 1000000000
def uZ(D:Dk):Dk:=xp {D with clock:=uz D,rs:=D.rs.map (xF (uz D))}
def vU(D:Dk)(id:Int):Bool:=decide (1<=id) && decide (id<=(D.rs.length:Nat))
def yc(D:Dk)(id:Int):Bool:=vU D id && ux D.rs (id.toNat-1)
def zW(D:Dk)(id:Int):Dk:=if yc D id=true then xp {D with rs:=D.rs.modify (id.toNat-1) λr=>r.ended 6}else D
inductive DStep (xs:List BA) (D:Dk) (i:Nat):Dk->Prop
 |idle (D1:Dk) (h1:D1=if D.wk[i]?=some none then xY D i else D) (h2:D1.wk[i]?=some none):DStep xs D i D1
 |work (D1:Dk) (h1:D1=if D.wk[i]?=some none then xY D i else D) (j:Nat) (h2:D1.wk[i]?=some (some j)) (r r':Rq) (t:Tk) (fin:Bool) (hr:D1.rs[j]?=some r) (ht:r.tk=some t) (hs:StepR xs t r r' fin):DStep xs D i (xp {D1 with rs:=D1.rs.set j r'})
theorem aX(h:DkW D)(hj: ∀i j:Nat,D.wk[i]?=some (some j)->j<D.rs.length):xp D=D:=by
 have e:D.wk.map (ym D.rs)=D.wk:=by
  apply List.ext_getElem?
  intro i;rw[OF];cases ho:D.wk[i]? with
  |none=>rfl
  |some o=>
   cases o with
   |none=>rfl
   |some j=>
    obtain⟨r,hr⟩: ∃r,D.rs[j]?=some r:=⟨_,OC (hj i j ho)⟩;have h1:=h i j r ho hr;have h2:ux D.rs j=true:=by
     unfold ux;rw[hr];show r.tk.isSome=true
     cases hk:r.tk with
     |none=>exact absurd hk h1
     |some t=>rfl
    show some (ym D.rs (some j))=_
    unfold ym;show some (if ux D.rs j=true then some j else none)=_
    rw[if_pos h2]
 unfold xp;rw[e]
theorem pP(D:Dk):DkW (xp D):=by
 intro i j r hi hr;have h0:(D.wk.map (ym D.rs))[i]?=some (some j):=hi;rw[OF]at h0;cases ho:D.wk[i]? with
 |none=>rw[ho]at h0;cases h0
 |some o=>
  rw[ho]at h0;injection h0 with h0;cases o with
  |none=>cases h0
  |some j'=>
   have h1:(if ux D.rs j'=true then some j' else none)=some j:=h0
   split at h1
   ·rename_i hl
    injection h1 with h1;subst h1;have h3:D.rs[j']?=some r:=hr;unfold ux at hl;rw[h3]at hl;intro e;have h2:r.tk.isSome=true:=hl;rw[e]at h2;cases h2
   ·cases h1
theorem DkAt.cell(h:DkAt xs mr R db Q D tv wb ls w)(hl:ls[i]?=some l): ∃g c,tv=.slice (some ⟨g,0,none⟩) ls.length c/\w.cell? ⟨g,i,none⟩=some (.pointer (some ⟨l.rb,0,none⟩)):=by
 obtain⟨g,c,h1,h2⟩:=xj h.row (by have:=(OE.1 hl).1;omega)
 exact⟨g,c,h1,h2 i _ (by rw[OF,hl];rfl)⟩
theorem DkAt.get(h:DkAt xs mr R db Q D tv wb ls w)(hi:i<D.rs.length): ∃l r,ls[i]?=some l/\D.rs[i]?=some r/\RqAt xs mr l.rb l.P r l.uv l.tp w:=by
 have hl:i<ls.length:=by rw[h.len];exact hi
 exact⟨_,_,OC hl,OC hi,h.at' i _ _ (OC hl) (OC hi)⟩
variable{k:Nat}
theorem ld{rs:List Rq}(h:rs[k]?=some r):xA (rs.take (k+1))=xA (rs.take k)+if vF r=true then 1 else 0:=by
 unfold xA;obtain⟨h1,h2⟩:=OE.1 h;rw[O8 h1,h2,List.countP_append,List.countP_singleton]
theorem bu(rs:List Rq):xA rs<=rs.length:=List.countP_le_length
theorem t8(h:DkAt xs mr R db Q D tv wb ls w):
  Calls prog 107 #[.pointer (some ⟨db,0,none⟩)] w λe w'=>e=.returned (.int .i64 (xA D.rs:Nat))/\w'=w:=by
 have d2:=qa h.blk (j:=2) rfl;have HD:Hid (DkAt xs mr R db Q D tv wb ls w):=h;have h6:=h.ok.rl;obtain⟨N,hN⟩: ∃N,D.rs.length=N:=⟨_,rfl⟩;have HN:Hid (D.rs.length=N):=hN;obtain⟨tx,tc,h2⟩:=qz h.row;rw[h2,h.len,hN]at d2;have h3:Hid (tv=.slice tx ls.length tc):=h2;rw[hN]at h6;clear h h2 hN;go_enter func107,ntmps107;go_wp2
 go_loopw [3,11] (λc i wr=> ∃k:Nat,k<=N/\c=.int .i64 (xA (D.rs.take k):Nat)/\i=.int .i64 k/\wr=w) (λ_ i _=>N-(intOf i).toNat)
 case atStart=>exact⟨0,Um _,rfl,rfl,rfl⟩
 case round=>
  obtain⟨k,hk,rfl,rfl,rfl⟩:=hrel;have h8:xA (D.rs.take k)<=30:=Ue (bu _) (by rw[OQ];omega)
  by_cases hlt:k<N
  ·obtain⟨l,r,hl,hr,hR⟩:=HD.out.get (i:=k) (by have:=HN.out;omega)
   obtain⟨g,c,hg,h4⟩:=HD.out.cell hl;rw[h3.out]at hg;injection hg with hg _ h7;subst hg;subst h7;have h1:Hid (Calls prog 162 #[.pointer (some ⟨l.rb,0,none⟩)] wr λe w'=>e=.returned (.bool (vF r))/\w'=wr):=aW hR.blk;have h0:Hid (xA (D.rs.take (k+1))=xA (D.rs.take k)+if vF r=true then 1 else 0):=ld hr
   clear hl hr hR HD h3;generalize xA (D.rs.take k)=cn at *;cases hw:vF r with
   |true=>
    rw[hw]at h1 h0
    go_wp2_with(go_at_call 162;refine h1.out.mono ?_;rintro e w1 ⟨rfl,h5⟩;subst w1)
    go_roundw
    case rel=>exact⟨k+1,by omega,by rw[h0.out];go_num,by go_num,trivial⟩
    case measure=>simp[intOf];omega
   |false=>
    rw[hw]at h1 h0
    go_wp2_with(go_at_call 162;refine h1.out.mono ?_;rintro e w1 ⟨rfl,h5⟩;subst w1)
    go_roundw
    case rel=>exact⟨k+1,by omega,by rw[h0.out];rfl,by go_num,trivial⟩
    case measure=>simp[intOf];omega
  ·obtain rfl:k=N:=by omega
   have HE:Hid (xA (D.rs.take k)=xA D.rs):=by
    show _=_
    rw[O7 (by have:=HN.out;omega)]
   clear HD h3;go_wp2;go_ret;rw[HE.out];exact⟨rfl,rfl⟩
theorem DkAt.setW(h:DkAt xs mr R db Q D tv wb ls w)(i:Nat)(o:Option Nat)(ho: ∀j,o=some j->j<D.rs.length):
  DkAt xs mr R db Q {D with wk:=D.wk.set i o} tv wb ls (w.setCell ⟨wb,i,none⟩ (wkV ls o)):=by
 have hf:=zu w wb i (wkV ls o);have hz:=yG w ⟨wb,i,none⟩ (wkV ls o);have h2:db≠wb:=by
  intro e;have h1:=h.blk;rw[e,h.wrow]at h1;injection h1 with h1;injection h1 with _ h1;revert h1;decide
 have hR: ∀k,R k->(w.setCell ⟨wb,i,none⟩ (wkV ls o)).heap[k]?=w.heap[k]?:=λk hk=>hf.block k (h.ru.lt k hk) λe=>h.rq k hk (e▸h.wQ);refine{h with blk:=?_,row:=qF h.row λg hg=>hf.block g (qf h.row g hg).1 λe=>h.tw (by rw[hg,e]),wrow:=?_,at':=λa l r hl hr=>(h.at' a l r hl hr).keep hf.size (λk hk=>hf.block k ((h.at' a l r hl hr).lt k hk) λe=>h.wn l (OZ hl) (e▸hk)) (h.ru.all _ hR),lt:=λk e=>by rw[hz];exact h.lt k e,ok:=?_,ru:=h.ru.to (by rw[hz];exact Uc _) hR}
 ·show _=some (Obj.cells (aG D.qu D.clock tv (.slice (some ⟨wb,0,none⟩) (D.wk.set i o).length (D.wk.set i o).length)).toArray _ _)
  rw[OO];exact(hf.block db (qc h.blk) h2).trans h.blk
 ·show _=some (Obj.cells ((D.wk.set i o).map (wkV ls)).toArray _ _)
  rw[List.map_set];exact qL h.wrow i _
 ·refine{h.ok with w1:=by show 1<=(D.wk.set i o).length;rw[OO];exact h.ok.w1,w4:=by show(D.wk.set i o).length<=4;rw[OO];exact h.ok.w4,wj:=λa b h3=>?_}
  have h0:(D.wk.set i o)[a]?=some (some b):=h3;by_cases e:i=a
  ·subst e
   by_cases hi:i<D.wk.length
   ·rw[OI hi]at h0
    injection h0 with h0;exact ho b h0
   ·rw[OD (by rw[OO];omega)]at h0;cases h0
  ·rw[OH e]at h0
   exact h.ok.wj a b h0
structure DisI(D:Dk)(k:Nat)(wk:List (Option Nat)):Prop where
 len:wk.length=D.wk.length
 lo: ∀i,i<k->wk[i]?=(D.wk[i]?).map (ym D.rs)
 hi: ∀i,k<=i->wk[i]?=D.wk[i]?
variable{o:Option Nat}{wk:List (Option Nat)}
theorem DisI.next(h:DisI D k wk)(ho:D.wk[k]?=some o):DisI D (k+1) (wk.set k (ym D.rs o)):=by
 have hk:k<wk.length:=by rw[h.len];exact(OE.1 ho).1
 refine⟨by rw[OO];exact h.len,λi hi=>?_,λi hi=>?_⟩
 ·by_cases e:k=i
  ·subst e;rw[OI hk,ho];rfl
  ·rw[OH e];exact h.lo i (by omega)
 ·rw[OH (by omega)];exact h.hi i (by omega)
theorem DisI.same(h:DisI D k wk)(ho:D.wk[k]?=some o)(hd:ym D.rs o=o):DisI D (k+1) wk:=by
 refine⟨h.len,λi hi=>?_,λi hi=>h.hi i (by omega)⟩
 by_cases e:k=i
 ·subst e;rw[h.hi k (Uc _),ho];show some o=some (ym D.rs o);rw[hd]
 ·exact h.lo i (by omega)
theorem DisI.all(h:DisI D k wk)(hk:D.wk.length<=k):wk=D.wk.map (ym D.rs):=by
 apply List.ext_getElem?
 intro i;rw[OF];by_cases hi:i<k
 ·exact h.lo i hi
 ·rw[h.hi i (by omega),OD (by omega)];rfl
structure DisA(xs:List BA)(mr:Nat)(R:Nat->Prop)(db:Nat)(Q:Nat->Prop)(D:Dk)(tv:Value)(wb:Nat)(ls:List Rl)(w:World)(k:Nat)(wr:World):Prop where
 fr:Frm (λj=>j=wb) w wr
 sz:wr.heap.size=w.heap.size
 ex: ∃wk,DisI D k wk/\DkAt xs mr R db Q {D with wk:=wk} tv wb ls wr
theorem jx(h:DkAt xs mr R db Q D tv wb ls w)(u:FrameMode):
  CallsD prog 110 #[.pointer (some ⟨db,0,none⟩)] u w λe u' w'=>u'=u/\(e=.returned (.tuple #[])/\Frm (λk=>k=wb) w w'/\w'.heap.size=w.heap.size/\DkAt xs mr R db Q (xp D) tv wb ls w'):=by
 have d3:=qa h.blk (j:=3) rfl;have h9:Hid (DisA xs mr R db Q D tv wb ls w 0 w):=⟨Frm.refl _ _,rfl,D.wk,⟨rfl,λi hi=>by omega,λ_ _=>rfl⟩,h⟩
 have h4:=h.ok.w4;have HJ:Hid (∀i j:Nat,D.wk[i]?=some (some j)->j<D.rs.length):=h.ok.wj;obtain⟨N,hN⟩: ∃N,D.wk.length=N:=⟨_,rfl⟩;have HN:Hid (D.wk.length=N):=hN;rw[hN]at d3 h4;clear h hN
 go_enter_d func110,ntmps110
 go_wp2
 go_loopw [9] (λi wr=> ∃k:Nat,k<=N/\i=.int .i64 k/\DisA xs mr R db Q D tv wb ls w k wr) (λi _=>N-(intOf i).toNat)
 case atStart=>exact⟨0,Um _,rfl,h9.out⟩
 case round=>
  obtain⟨k,hk,rfl,hA⟩:=hrel;have HA:Hid (DisA xs mr R db Q D tv wb ls w k wr):=hA;obtain⟨wk,hI,hD⟩:=hA.ex;have HI:Hid (DisI D k wk):=hI;have HD:Hid (DkAt xs mr R db Q {D with wk:=wk} tv wb ls wr):=hD;clear hA hI hD h9 d3;by_cases hlt:k<N
  ·obtain⟨o,ho⟩: ∃o,D.wk[k]?=some o:=⟨_,OC (by have:=HN.out;omega)⟩
   have h2:wk[k]?=some o:=(HI.out.hi k (Uc _)).trans ho;have h7:=qa HD.out.wrow (j:=k) (u:=wkV ls o) (by rw[OF];show(wk[k]?).map _=_;rw[h2];rfl)
   have h0:=qa HD.out.blk (j:=3) rfl;have h5:wk.length=N:=by rw[HI.out.len];exact HN.out
   have hc:wr.cell? ⟨db,3,none⟩=some (.slice (some ⟨wb,0,none⟩) N N):=by rw[←h5];exact h0
   clear h0;cases o with
   |none=>
    have HX:Hid (DisA xs mr R db Q D tv wb ls w (k+1) wr):=⟨HA.out.fr,HA.out.sz,wk,HI.out.same ho rfl,HD.out⟩;have h8:wr.cell? ⟨wb,k,none⟩=some (.pointer none):=h7;clear h7 ho h2 HA HI HD HJ h5;go_wp2
    go_roundw
    case rel=>exact⟨k+1,by omega,by go_num,HX.out⟩
    case measure=>simp[intOf];omega
   |some j=>
    have hj:=HJ.out k j ho;obtain⟨l,r,hl,hr,hR⟩:=HD.out.get (i:=j) hj;have h8:wr.cell? ⟨wb,k,none⟩=some (.pointer (some ⟨l.rb,0,none⟩)):=by
     rw[h7];show some (wkV ls (some j))=_;rw[vp,hl];rfl
    clear h7;have h6:Hid (Calls prog 114 #[.pointer (some ⟨l.rb,0,none⟩)] wr λe w'=>e=.returned (.bool (!r.tk.isSome))/\w'=wr):=dB hR;have h3:D.rs[j]?=some r:=hr;cases ht:r.tk with
    |some t=>
     rw[ht]at h6;have HX:Hid (DisA xs mr R db Q D tv wb ls w (k+1) wr):=by
      refine⟨HA.out.fr,HA.out.sz,wk,HI.out.same ho ?_,HD.out⟩;unfold ym;show(if ux D.rs j=true then some j else none)=_
      rw[if_pos];unfold ux;rw[h3];show r.tk.isSome=true;rw[ht];rfl
     clear ho h2 HA HI HD HJ h5 hR hl hr h3 ht
     go_wp2_with(go_at_call 114;refine h6.out.mono ?_;rintro e w1 ⟨rfl,ha⟩;subst w1)
     go_roundw
     case rel=>exact⟨k+1,by omega,by go_num,HX.out⟩
     case measure=>simp[intOf];omega
    |none=>
     rw[ht]at h6;have hb:=qd HD.out.wrow k;have HX:Hid (DisA xs mr R db Q D tv wb ls w (k+1) (wr.setCell ⟨wb,k,none⟩ (.pointer none))):=by
      have hd:ym D.rs (some j)=none:=by
       unfold ym;show(if ux D.rs j=true then some j else none)=_
       rw[if_neg];unfold ux;rw[h3];show¬r.tk.isSome=true;rw[ht];decide
      have h1:=HI.out.next ho;rw[hd]at h1;exact⟨HA.out.fr.trans (zu _ _ _ _) λ_ _ e=>e,by rw[yG];exact HA.out.sz,_,h1,HD.out.setW k none (λj e=>by cases e)⟩
     clear ho h2 HA HI HD HJ h5 hR hl hr h3 ht
     go_wp2_with(go_at_call 114;refine h6.out.mono ?_;rintro e w1 ⟨rfl,ha⟩;subst w1)
     go_roundw
     case rel=>exact⟨k+1,by omega,by go_num,HX.out⟩
     case measure=>simp[intOf];omega
  ·obtain rfl:k=N:=by omega
   have HF:Hid (Frm (λj=>j=wb) w wr/\wr.heap.size=w.heap.size/\DkAt xs mr R db Q (xp D) tv wb ls wr):=by
    refine⟨HA.out.fr,HA.out.sz,?_⟩;have e:=HI.out.all (by have:=HN.out;omega)
    unfold xp;rw[←e];exact HD.out
   clear HA HI HD HJ;go_wp2
   go_end0
   exact⟨rfl,HF.out⟩
theorem KW(a b:Nod):((a.k.toList==b.k.toList) && (a.n.toList==b.n.toList) && (a.r.toList==b.r.toList))=decide (a=b):=by
 have e1: ∀x y:BA,(x.toList==y.toList)=decide (x=y):=λx y=>jn x y;rw[e1,e1,e1];obtain⟨a1,a2,a3⟩:=a;obtain⟨b1,b2,b3⟩:=b;by_cases h1:a1=b1
 ·by_cases h2:a2=b2
  ·by_cases h3:a3=b3
   ·subst h1 h2 h3;simp
   ·simp[h3]
  ·simp[h2]
 ·simp[h1]
variable{nb:Nat}{x:Nod}
theorem Zo(h:DkAt xs mr R db Q D tv wb ls w)(hW:DkW D)(ho:D.wk[i]?=some o)(hb:w.heap[nb]?=some (.cells [.string x.k,.string x.n,.string x.r].toArray 75 (0,0))):
  Calls prog 198 #[wkV ls o,.pointer (some ⟨nb,0,none⟩)] w λe w'=>e=.returned (.bool (decide (yT D.rs o=some x)))/\Below w.heap.size w w':=by
 have n0:=qa hb (j:=0) rfl;have n1:=qa hb (j:=1) rfl;have n2:=qa hb (j:=2) rfl;cases o with
 |none=>
  show Calls prog 198 #[.pointer none,.pointer (some ⟨nb,0,none⟩)] w _
  have e:decide (yT D.rs none=some x)=false:=rfl;rw[e];clear h hb;go_enter func198,ntmps198;go_wp2
  go_region
  all_goals go_wp2
  all_goals go_ret
  all_goals exact⟨rfl,bl⟩
 |some j=>
  have hj:=h.ok.wj i j ho;obtain⟨l,r,hl,hr,hR⟩:=h.get hj;have e1:wkV ls (some j)=.pointer (some ⟨l.rb,0,none⟩):=by rw[vp,hl];rfl
  rw[e1];obtain⟨t,ht⟩: ∃t,r.tk=some t:=by
   cases e:r.tk with
   |none=>exact absurd e (hW i j r ho hr)
   |some t=>exact⟨t,rfl⟩
  obtain⟨kb,wkb,O,met,h0,-,-,-,hT⟩:=hR.tk t ht;have c4:=qa hR.blk (j:=4) rfl;rw[h0]at c4;have k0:=qa hT.blk (j:=0) rfl;have k1:=qa hT.blk (j:=1) rfl;have k2:=qa hT.blk (j:=2) rfl;have e2:decide (yT D.rs (some j)=some x)=((t.x.k.toList==x.k.toList) && (t.x.n.toList==x.n.toList) && (t.x.r.toList==x.r.toList)):=by
   rw[KW];unfold yT;show decide ((D.rs[j]?.bind λr=>r.tk.map Tk.x)=some x)=_
   rw[hr];show decide (r.tk.map Tk.x=some x)=_
   rw[ht];simp
  rw[e2];generalize t.x=y at *;generalize l.rb=rb at *;clear h hb hR hT ht hl hr e1 e2 h0 ho hj hW;have b1: ∀a b:BA,a.toList=b.toList->(a.toList==b.toList)=true:=λa b e=>by rw[e];simp
  have b2: ∀a b:BA,¬a.toList=b.toList->(a.toList==b.toList)=false:=λa b e=>by simpa using e
  by_cases a1:y.k.toList=x.k.toList
  ·by_cases a2:y.n.toList=x.n.toList
   ·by_cases a3:y.r.toList=x.r.toList
    ·rw[b1 _ _ a1,b1 _ _ a2,b1 _ _ a3]
     clear b1 b2;go_enter func198,ntmps198;go_wp2
     go_region
     all_goals go_wp2
     all_goals go_ret
     all_goals exact⟨rfl,bl⟩
    ·rw[b1 _ _ a1,b1 _ _ a2,b2 _ _ a3]
     clear b1 b2;go_enter func198,ntmps198;go_wp2
     go_region
     all_goals go_wp2
     all_goals go_ret
     all_goals exact⟨rfl,bl⟩
   ·rw[b1 _ _ a1,b2 _ _ a2]
    clear b1 b2;go_enter func198,ntmps198;go_wp2
    go_region
    all_goals go_wp2
    all_goals go_ret
    all_goals exact⟨rfl,bl⟩
  ·rw[b2 _ _ a1]
   clear b1 b2;go_enter func198,ntmps198;go_wp2
   go_region
   all_goals go_wp2
   all_goals go_ret
   all_goals exact⟨rfl,bl⟩
theorem bv(ho:D.wk[k]?=some o)(h:decide (yT D.rs o=some x)=true):yL D x=true:=by
 unfold yL;exact List.any_eq_true.2 ⟨o,OZ ho,h⟩
theorem Qn(h: ∀(j:Nat) (o:Option Nat),D.wk[j]?=some o->decide (yT D.rs o=some x)=false):yL D x=false:=by
 unfold yL;refine List.any_eq_false.2 λo ho=>?_;obtain⟨j,hj⟩:=OX.1 ho;rw[h j o hj];decide
theorem XJ(h:DkAt xs mr R db Q D tv wb ls w)(hW:DkW D)(hb:w.heap[nb]?=some (.cells [.string x.k,.string x.n,.string x.r].toArray 75 (0,0))):
  Calls prog 219 #[.slice (some ⟨wb,0,none⟩) D.wk.length D.wk.length,.func (.func 198) #[] #[.pointer (some ⟨nb,0,none⟩)]] w λe w'=> ∃z:Int,e=.returned (.int .i64 z)/\decide (0<=z)=yL D x/\Below w.heap.size w w':=by
 have HP:Hid (∀(i:Nat) (o:Option Nat) (w1:World),D.wk[i]?=some o->Below w.heap.size w w1->Calls prog 198 #[wkV ls o,.pointer (some ⟨nb,0,none⟩)] w1 λe w'=>e=.returned (.bool (decide (yT D.rs o=some x)))/\Below w.heap.size w w'):=by
  intro i o w1 ho h0;refine(Zo (h.below h0) hW ho ((h0.block _ (qc hb)).trans hb)).mono ?_;rintro e w' ⟨he,h3⟩;exact⟨he,h0.trans (h3.mono h0.size)⟩
 have HR:Hid (∀(i:Nat) (o:Option Nat) (w1:World),D.wk[i]?=some o->Below w.heap.size w w1->w1.cell? ⟨wb,i,none⟩=some (wkV ls o)):=by
  intro i o w1 ho h0;exact qa ((h0.block _ (qc h.wrow)).trans h.wrow) (by rw[OF,ho];rfl)
 have h4:=h.ok.w4;obtain⟨N,hN⟩: ∃N,D.wk.length=N:=⟨_,rfl⟩;have HN:Hid (D.wk.length=N):=hN;rw[hN]at h4 ⊢;clear h hb hW hN;go_enter func219,ntmps219;go_wp2
 go_loopw [8] (λi wr=> ∃k:Nat,k<=N/\i=.int .i64 k/\Below w.heap.size w wr/\ ∀(j:Nat) (o:Option Nat),j<k->D.wk[j]?=some o->decide (yT D.rs o=some x)=false) (λi _=>N-(intOf i).toNat)
 case atStart=>exact⟨0,Um _,rfl,Ou _ _,λj o hj=>by omega⟩
 case round=>
  obtain⟨k,hk,rfl,hB,hA⟩:=hrel;have HB:Hid (Below w.heap.size w wr):=hB;have HA:Hid (∀(j:Nat) (o:Option Nat),j<k->D.wk[j]?=some o->decide (yT D.rs o=some x)=false):=hA;clear hB hA;by_cases hlt:k<N
  ·obtain⟨o,ho⟩: ∃o,D.wk[k]?=some o:=⟨_,OC (by have:=HN.out;omega)⟩
   have h5:=HR.out k o wr ho HB.out;have h1:Hid (Calls prog 198 #[wkV ls o,.pointer (some ⟨nb,0,none⟩)] wr λe w'=>e=.returned (.bool (decide (yT D.rs o=some x)))/\Below w.heap.size w w'):=HP.out k o wr ho HB.out;have HO:Hid (D.wk[k]?=some o):=ho;obtain⟨p,hp⟩: ∃p,wkV ls o=.pointer p:=by
    cases o with
    |none=>exact⟨none,rfl⟩
    |some j=>
     rw[vp];cases ls[j]? with
     |none=>exact⟨none,rfl⟩
     |some l=>exact⟨_,rfl⟩
   rw[hp]at h5 h1;clear ho hp HR HP HB;cases hd:decide (yT D.rs o=some x)with
   |true=>
    rw[hd]at h1;have HF:Hid (yL D x=true):=bv HO.out hd;clear hd HO
    go_wp2_with(go_at_call 198;refine h1.out.mono ?_;rintro e w1 ⟨rfl,h0⟩)
    go_ret;exact⟨_,rfl,by rw[HF.out];exact Up (by omega),h0⟩
   |false=>
    rw[hd]at h1;have HF:Hid (decide (yT D.rs o=some x)=false):=hd;clear hd
    go_wp2_with(go_at_call 198;refine h1.out.mono ?_;rintro e w1 ⟨rfl,h0⟩)
    go_roundw
    case rel=>
     refine⟨k+1,by omega,by go_num,h0,λj o' hj h2=>?_⟩
     by_cases e:j=k
     ·subst e
      have:=HO.out;rw[h2]at this;injection this with this;rw[this];exact HF.out
     ·exact HA.out j o' (by omega) h2
    case measure=>simp[intOf];omega
  ·obtain rfl:k=N:=by omega
   have HF:Hid (yL D x=false):=Qn λj o ho=>HA.out j o (by have:=(OE.1 ho).1;have:=HN.out;omega) ho
   clear HA HR HP;go_wp2;go_ret;exact⟨_,rfl,by rw[HF.out];decide,HB.out⟩
theorem Zp(h:DkAt xs mr R db Q D tv wb ls w)(hW:DkW D)(x:Nod):
  Calls prog 163 #[.pointer (some ⟨db,0,none⟩),.agg #[.string x.k,.string x.n,.string x.r]] w λe w'=>e=.returned (.bool (yL D x))/\Below w.heap.size w w':=by
 have d3:=qa h.blk (j:=3) rfl;have h1:=qc h.blk;have h0:Below w.heap.size w (w.alloc (.cells #[.string x.k,.string x.n,.string x.r] 75)):=(Ou _ _).alloc (Uc _) _;have HI:Hid (Calls prog 219 #[.slice (some ⟨wb,0,none⟩) D.wk.length D.wk.length,.func (.func 198) #[] #[.pointer (some ⟨w.heap.size,0,none⟩)]] (w.alloc (.cells #[.string x.k,.string x.n,.string x.r] 75)) λe w'=> ∃z:Int,e=.returned (.int .i64 z)/\decide (0<=z)=yL D x/\Below w.heap.size w w'):=by
  refine(XJ (h.below h0) hW (qn w [.string x.k,.string x.n,.string x.r] _)).mono ?_;rintro e w' ⟨z,he,hz,hb⟩;exact⟨z,he,hz,h0.trans (hb.mono h0.size)⟩
 have HC:Hid (Calls prog 197 #[.slice (some ⟨wb,0,none⟩) D.wk.length D.wk.length,.func (.func 198) #[] #[.pointer (some ⟨w.heap.size,0,none⟩)]] (w.alloc (.cells #[.string x.k,.string x.n,.string x.r] 75)) λe w'=>e=.returned (.bool (yL D x))/\Below w.heap.size w w'):=by
  clear d3 h1 h h0;show Calls _ _ _ _ _
  generalize D.wk.length=N at *;go_enter func197,ntmps197
  go_wp2_with(go_at_call 219;refine HI.out.mono ?_;rintro e w1 ⟨z,rfl,hz,hb⟩)
  go_ret;exact⟨rfl,hb⟩
 generalize D.wk.length=N at *;clear h h0 hW HI;go_enter func163,ntmps163
 go_wp2_with(go_at_call 197;refine HC.out.mono ?_;rintro e w1 ⟨rfl,h0⟩)
 go_ret;exact⟨rfl,h0⟩
theorem RqAt.work(h:RqAt xs mr rb P r uv tp w)(hi:r.is=1)(hr:zp (w.setCell ⟨rb,0,none⟩ (.int .i64 2)) mr xs):RqAt xs mr rb P {r with is:=2} uv tp (w.setCell ⟨rb,0,none⟩ (.int .i64 2)):=by
 have hf:=zu w rb 0 (.int .i64 2);have hz:=yG w ⟨rb,0,none⟩ (.int .i64 2);have h0:r.tk≠none:=λe=>h.live.1 e (Or.inl hi);refine{h with blk:=qL h.blk 0 _,us:=xJ h.us λk e=>hf.block k (zG h.us k e).1 (h.uP k e).2,tk:=λt ht=>?_,live:=⟨λe=>absurd e h0,λe=>absurd (Or.inr rfl) e⟩,lt:=λk e=>by rw[hz];exact h.lt k e,is0:=by show(1:Int)<=2;decide,is9:=by show(2:Int)<=6;decide}
 obtain⟨kb,wb,O,met,h1,h2,h3,h4,h5⟩:=h.tk t ht;have h6:kb≠rb:=by
  intro e;have q:=h5.blk;rw[e,h.blk]at q;injection q with q;injection q with _ q;revert q;decide
 exact⟨kb,wb,O,met,h1,h2,h3,h4,h5.keep hf.size (λk e=>hf.block k (h5.wk.lt k e) λe2=>h4 (e2▸e)) (hf.block kb (qc h5.blk) h6) hr⟩
theorem pQ{α:Type}{l:List α}{a:α}(f:α->α)(h:l[i]?=some a):l.modify i f=l.set i (f a):=by
 apply List.ext_getElem?
 intro j;have hi:=(OE.1 h).1;by_cases e:i=j
 ·subst e
  rw[List.getElem?_modify_eq,OI hi,h];rfl
 ·rw[OH e,List.getElem?_modify];simp[e]
variable{j:Nat}
theorem DkAt.work(h:DkAt xs mr R db Q D tv wb ls w)(hl:ls[j]?=some l)(hr:D.rs[j]?=some r)(hi:r.is=1):
  DkAt xs mr R db Q {D with rs:=D.rs.set j {r with is:=2}} tv wb ls (w.setCell ⟨l.rb,0,none⟩ (.int .i64 2)):=by
 have hR:=h.at' j l r hl hr;have hf:=zu w l.rb 0 (.int .i64 2);have hz:=yG w ⟨l.rb,0,none⟩ (.int .i64 2);have h0:Frm l.P w (w.setCell ⟨l.rb,0,none⟩ (.int .i64 2)):=hf.mono λk _ e=>e▸hR.rP;have hm:=OZ hl;have h1:zp (w.setCell ⟨l.rb,0,none⟩ (.int .i64 2)) mr xs:=(h.ru.frm h0 λk hk e=>h.rq k hk (h.inQ l hm k e)).now;have key:=h.upd (l':=l) (r':={r with is:=2}) hl hr rfl h0 (λk e=>Or.inl e) (hR.work hi h1);have e:ls.set j l=ls:=by
  apply List.ext_getElem?
  intro a;by_cases e:j=a
  ·subst e;rw[OI (OE.1 hl).1,hl]
  ·rw[OH e]
 rw[e]at key;refine key.wide (λk e=>?_) (λk e=>by rw[hz];exact h.lt k e) h.rq
 rcases e with e|e
 ·exact e
 ·omega
theorem lh(h: ∀(k:Nat) (r:Rq),D.rs[k]?=some r->yP D r=false):xY D i=D:=by
 unfold xY;have e:D.rs.findIdx? (yP D)=none:=by
  rw[List.findIdx?_eq_none_iff];intro r hr;obtain⟨k,hk⟩:=OX.1 hr;exact h k r hk
 rw[e]
theorem li(hr:D.rs[j]?=some r)(hm:yP D r=true)(h: ∀(k:Nat) (r:Rq),k<j->D.rs[k]?=some r->yP D r=false):xY D i={D with rs:=D.rs.set j {r with is:=2},wk:=D.wk.set i (some j)}:=by
 have hj:=(OE.1 hr);have h0:=hj.1;have e:D.rs.findIdx? (yP D)=some j:=by
  rw[List.findIdx?_eq_some_iff_getElem];refine⟨hj.1,by rw[hj.2];exact hm,λk hk=>?_⟩
  have:=h k (D.rs[k]'(by omega)) hk (OC (by omega))
  rw[this];decide
 unfold xY;rw[e];show{D with rs:=D.rs.modify j _,wk:=_}=_
 rw[pQ _ hr]
theorem Zq(h:DkAt xs mr R db Q D tv wb ls w)(hW:DkW D)(hi:i<D.wk.length):
  Calls prog 111 #[.pointer (some ⟨db,0,none⟩),.int .i64 i] w λe w'=>e=.returned (.tuple #[])/\Frm Q w w'/\DkAt xs mr R db Q (xY D i) tv wb ls w':=by
 have d2:=qa h.blk (j:=2) rfl;have HD:Hid (DkAt xs mr R db Q D tv wb ls w):=h;have h5:Hid (∀w1 x,Below w.heap.size w w1->Calls prog 163 #[.pointer (some ⟨db,0,none⟩),.agg #[.string x.k,.string x.n,.string x.r]] w1 λe w'=>e=.returned (.bool (yL D x))/\Below w.heap.size w w'):=by
  intro w1 x hf;refine(Zp (h.below hf) hW x).mono ?_;rintro e w' ⟨he,hb⟩;exact⟨he,hf.trans (hb.mono hf.size)⟩
 have hy:=h.ok.rl;have hv:=h.ok.w4;obtain⟨N,hN⟩: ∃N,D.rs.length=N:=⟨_,rfl⟩;have HN:Hid (D.rs.length=N):=hN;obtain⟨M,hM⟩: ∃M,D.wk.length=M:=⟨_,rfl⟩;have HM:Hid (D.wk.length=M):=hM;obtain⟨tx,tc,hn⟩:=qz h.row;rw[hn,h.len,hN]at d2;have hs:Hid (tv=.slice tx ls.length tc):=hn;rw[hN]at hy;rw[hM]at hi hv;clear h hn hN hW hM;go_enter func111,ntmps111;go_wp2
 go_loopw [11] (λiv wr=> ∃k:Nat,k<=N/\iv=.int .i64 k/\Below w.heap.size w wr/\ ∀(j:Nat) (r:Rq),j<k->D.rs[j]?=some r->yP D r=false) (λiv _=>N-(intOf iv).toNat)
 case atStart=>exact⟨0,Um _,rfl,Ou _ _,λj o hj=>by omega⟩
 case round=>
  obtain⟨k,hk,rfl,hB,hA⟩:=hrel;have HB:Hid (Below w.heap.size w wr):=hB;have HA:Hid (∀(j:Nat) (r:Rq),j<k->D.rs[j]?=some r->yP D r=false):=hA;clear hB hA;by_cases hlt:k<N
  ·have h2:=HD.out.below HB.out
   obtain⟨l,r,hl,hr,hR⟩:=h2.get (i:=k) (by have:=HN.out;omega)
   obtain⟨g,c,hg,hq⟩:=h2.cell hl;rw[hs.out]at hg;injection hg with hg _ hC;subst hg;subst hC;have h3:Hid (Calls prog 162 #[.pointer (some ⟨l.rb,0,none⟩)] wr λe w'=>e=.returned (.bool (vF r))/\w'=wr):=aW hR.blk;have h9:Hid (D.rs[k]?=some r):=hr;cases hw:vF r with
   |false=>
    rw[hw]at h3;have ho:Hid (yP D r=false):=by unfold yP;rw[hw];rfl
    have hz:Hid (Below w.heap.size w wr):=HB.out;clear hl hr hR h2 hw HB
    go_wp2_with(go_at_call 162;refine h3.out.mono ?_;rintro e w1 ⟨rfl,hp⟩;subst w1)
    go_roundw
    case rel=>
     refine⟨k+1,by omega,by go_num,hz.out,λj r' hj h4=>?_⟩
     by_cases e:j=k
     ·subst e
      have:=h9.out;rw[h4]at this;injection this with this;rw[this];exact ho.out
     ·exact HA.out j r' (by omega) h4
    case measure=>simp[intOf];omega
   |true=>
    rw[hw]at h3;have ha:r.is=1:=of_decide_eq_true hw;obtain⟨t,ht⟩: ∃t,r.tk=some t:=by
     cases e:r.tk with
     |none=>exact absurd (Or.inl ha) (hR.live.1 e)
     |some t=>exact⟨t,rfl⟩
    obtain⟨kb,wkb,O,met,hd,-,-,-,hT⟩:=hR.tk t ht;have c4:=qa hR.blk (j:=4) rfl;rw[hd]at c4;have k0:=qa hT.blk (j:=0) rfl;have k1:=qa hT.blk (j:=1) rfl;have k2:=qa hT.blk (j:=2) rfl;have h0:yP D r= !yL D t.x:=by unfold yP;rw[hw,ht];rfl
    have h7:Hid (Calls prog 163 #[.pointer (some ⟨db,0,none⟩),.agg #[.string t.x.k,.string t.x.n,.string t.x.r]] wr λe w'=>e=.returned (.bool (yL D t.x))/\Below w.heap.size w w'):=h5.out wr t.x HB.out;cases hbz:yL D t.x with
    |true=>
     rw[hbz]at h7 h0;have ho:Hid (yP D r=false):=h0;generalize t.x=x at *;clear hl hr hR h2 hw HB hT ht hd ha hbz h0 h5
     go_wp2_with(first|(go_at_call 162;refine h3.out.mono ?_;rintro e w1 ⟨rfl,hp⟩;subst w1)|(go_at_call 163;refine h7.out.mono ?_;rintro e w2 ⟨rfl,h1⟩))
     go_roundw
     case rel=>
      refine⟨k+1,by omega,by go_num,h1,λj r' hj h4=>?_⟩
      by_cases e:j=k
      ·subst e
       have:=h9.out;rw[h4]at this;injection this with this;rw[this];exact ho.out
      ·exact HA.out j r' (by omega) h4
     case measure=>simp[intOf];omega
    |false=>
     rw[hbz]at h7 h0;have HG:Hid (∀w2,Below w.heap.size w w2->w2.cell? ⟨l.rb,0,none⟩=some (.int .i64 r.is)/\w2.frozen? ⟨l.rb,0,none⟩=false/\(w2.setCell ⟨l.rb,0,none⟩ (.int .i64 2)).cell? ⟨db,3,none⟩=some (.slice (some ⟨wb,0,none⟩) M M)/\(∃v,(w2.setCell ⟨l.rb,0,none⟩ (.int .i64 2)).cell? ⟨wb,i,none⟩=some v)/\(w2.setCell ⟨l.rb,0,none⟩ (.int .i64 2)).frozen? ⟨wb,i,none⟩=false/\Hid (Frm Q w ((w2.setCell ⟨l.rb,0,none⟩ (.int .i64 2)).setCell ⟨wb,i,none⟩ (.pointer (some ⟨l.rb,0,none⟩)))/\DkAt xs mr R db Q (xY D i) tv wb ls ((w2.setCell ⟨l.rb,0,none⟩ (.int .i64 2)).setCell ⟨wb,i,none⟩ (.pointer (some ⟨l.rb,0,none⟩))))):=by
      intro w2 h1;have h6:=HD.out.below h1;have hc:=h6.at' k l r hl hr;have h8:=h6.work hl hr ha;have hu:=h8.setW i (some k) (λj e=>by injection e with e;rw[←e];show k<(D.rs.set k _).length;rw[OO];have:=HN.out;omega)
      have hm:=OZ hl;have ew:wkV ls (some k)=.pointer (some ⟨l.rb,0,none⟩):=by rw[vp,hl];rfl
      rw[ew]at hu;have d3:=qa h8.blk (j:=3) rfl;have hx:(w2.setCell ⟨l.rb,0,none⟩ (.int .i64 2)).cell? ⟨db,3,none⟩=some (.slice (some ⟨wb,0,none⟩) M M):=by rw[←HM.out];exact d3
      refine⟨qa hc.blk (j:=0) rfl,qd hc.blk 0,hx,⟨_,qa h8.wrow (j:=i) (by rw[OF];show(D.wk[i]?).map _=_;rw[OC (by have:=HM.out;omega)];rfl)⟩,qd h8.wrow i,?_,?_⟩
      ·refine((Frm.of_below h1).trans (zu _ _ _ _) λj _ e=>?_).trans (zu _ _ _ _) λj _ e=>?_
       ·rw[e];exact h6.inQ l hm _ hc.rP
       ·rw[e];exact h6.wQ
      ·rw[li h9.out h0 HA.out]
       exact hu
     generalize t.x=x at *;generalize l.rb=rb at *;clear hl hr hR h2 hw HB hT ht hd hbz h0 h5 HA h9
     go_wp2_with(first|(go_at_call 162;refine h3.out.mono ?_;rintro e w1 ⟨rfl,hp⟩;subst w1)|(go_at_call 163;refine h7.out.mono ?_;rintro e w2 ⟨rfl,h1⟩;obtain⟨g1,g2,g3,⟨gv,g4⟩,g5,HF⟩:=HG.out w2 h1;clear HG h1))
     exact bodyPost_ret (v:=.tuple #[]) (by simp[results,results111,go_sem]) rfl ⟨rfl,HF.out⟩
  ·obtain rfl:k=N:=by omega
   have HF:Hid (Frm Q w wr/\DkAt xs mr R db Q (xY D i) tv wb ls wr):=by
    refine⟨Frm.of_below HB.out,?_⟩;rw[lh λj r hr=>HA.out j r (by have:=(OE.1 hr).1;have:=HN.out;omega) hr]
    exact HD.out.below HB.out
   clear HA h5 HB HD hs;go_wp2
   go_end0
   exact⟨rfl,HF.out⟩
theorem RqAt.toEnd(h:RqAt xs mr rb P r uv tp w){k:Int}(h3:3<=k)(h6:k<=6)(hb:w'.heap[rb]?=some (.cells (rqL (r.ended k) uv (.pointer none)).toArray 161 (0,0)))(hf:Frm (λj=>j=rb) w w'):RqAt xs mr rb P (r.ended k) uv (.pointer none) w':=
 ⟨hb,xJ h.us (λj e=>hf.block j (zG h.us j e).1 (h.uP j e).2),h.uP,λ_=>rfl,(λt ht=>by cases ht),⟨λ_=>by show¬(k=1\/k=2);omega,λ_=>rfl⟩,λhne=>absurd rfl hne,h.rP,λj e=>Ug (h.lt j e) hf.size,h.sl,h.ul,by show 1<=k;omega,by show k<=6;omega⟩
theorem lj(h:RqAt xs mr rb P r uv tp w)(clock:Int):
  Calls prog 108 #[.pointer (some ⟨rb,0,none⟩),.int .i64 clock] w λe w'=>e=.returned (.tuple #[])/\Frm (λj=>j=rb) w w'/\w'.heap.size=w.heap.size/\ ∃tp',RqAt xs mr rb P (xF clock r) uv tp' w':=by
 have HE:Hid (Calls prog 114 #[.pointer (some ⟨rb,0,none⟩)] w λe w'=>e=.returned (.bool (!r.tk.isSome))/\w'=w):=dB h;have HD:Hid (Calls prog 115 #[.pointer (some ⟨rb,0,none⟩),.int .i64 5] w _):=cS h.blk 5;have HR:Hid (RqAt xs mr rb P r uv tp w):=h;cases ht:r.tk with
 |none=>
  rw[ht]at HE;rw[iu ht];clear h HD ht;go_enter func108,ntmps108
  go_wp2_with(go_at_call 114;refine HE.out.mono ?_;rintro e w1 ⟨rfl,h0⟩;subst w1)
  go_end0
  exact⟨rfl,Frm.refl _ _,rfl,tp,HR.out⟩
 |some t=>
  obtain⟨kb,wb,O,met,rfl,-,-,-,hT⟩:=h.tk t ht;have c4:=qa h.blk (j:=4) rfl;have k8:=qa hT.blk (j:=8) rfl;rw[ht]at HE;by_cases hl:t.til<=clock
  ·rw[kj ht hl]
   have h4:decide (t.til<=clock)=true:=Up hl;have HL:Hid (∀w',w'.heap[rb]?=some (.cells (rqL (r.ended 5) uv (.pointer none)).toArray 161 (0,0))->Frm (λj=>j=rb) w w'->RqAt xs mr rb P (r.ended 5) uv (.pointer none) w'):=λw' hb hf=>h.toEnd (by decide) (by decide) hb hf
   generalize t.til=til at *;clear h hT ht;go_enter func108,ntmps108
   go_wp2_with(first|(go_at_call 114;refine HE.out.mono ?_;rintro e w1 ⟨rfl,h0⟩;subst w1)|(go_at_call 115;refine HD.out.mono ?_;rintro e w2 ⟨rfl,h3,h1,h2⟩;have HF:Hid (w2.heap[rb]?=some (.cells (rqL (r.ended 5) uv (.pointer none)).toArray 161 (0,0))/\Frm (λj=>j=rb) w w2/\w2.heap.size=w.heap.size):=⟨h3,h1,h2⟩;clear h3 h1 h2))
   go_end0
   exact⟨rfl,HF.out.2.1,HF.out.2.2,_,HL.out _ HF.out.1 HF.out.2.1⟩
  ·rw[km ht hl]
   have h4:decide (t.til<=clock)=false:=Uo hl;generalize t.til=til at *;clear h hT ht HD;go_enter func108,ntmps108
   go_wp2_with(go_at_call 114;refine HE.out.mono ?_;rintro e w1 ⟨rfl,h0⟩;subst w1)
   go_end0
   exact⟨rfl,Frm.refl _ _,rfl,_,HR.out⟩
def rC(xs:List BA)(t:Tk)(r:Rq)(uv:Value)(rb:Nat)(O:Nat->Prop)(w w':World):Prop:=
 ∃al us uv',AnsR xs t al us/\us.length<=50/\w'.heap[rb]?=some (.cells (rqL ⟨3,r.st,al,us,none⟩ uv' (.pointer none)).toArray 161 (0,0))/\Frm (λj=>O j\/j=rb) w w'/\((uv'=uv/\us=[])\/(zH w' uv' us/\ ∀k,uv'.ownBlock=some k->w.heap.size<=k))
variable{O:Nat->Prop}{t:Tk}{w3:World}
theorem Qo{w2:World}(hf:Frm O w w2)(h7:rb<w.heap.size){al:Bool}{us:List BA}{uv':Value}(ha:AnsR xs t al us)(hl:us.length<=50)(hu:(uv'=uv/\us=[])\/(zH w2 uv' us/\ ∀k,uv'.ownBlock=some k->w.heap.size<=k))(h3:w3.heap[rb]?=some (.cells (rqL {r with al:=al,us:=us} uv' tp).toArray 161 (0,0)))(h6:Frm (λj=>j=rb) w2 w3):
  Calls prog 115 #[.pointer (some ⟨rb,0,none⟩),.int .i64 3] w3 λe w'=>e=.returned (.tuple #[])/\rC xs t r uv rb O w w':=by
 refine(cS h3 3).mono ?_;rintro e w4 ⟨rfl,h4,h5,-⟩;have h0:Frm (λj=>j=rb) w2 w4:=h6.trans h5 λ_ _ e=>e;refine⟨rfl,al,us,uv',ha,hl,h4,(hf.mono λ_ _ e=>Or.inl e).trans h0 λj _ e=>Or.inr e,?_⟩;rcases hu with e|⟨h1,h2⟩
 ·exact Or.inl e
 ·refine Or.inr ⟨xJ h1 λk hk=>h0.block k (zG h1 k hk).1 λe=>?_,h2⟩
  have:=h2 k hk;rw[e]at this;omega
variable{met:List Nod}
theorem bw(HW:Hid xh){gone:Nat}(hb:w.heap[rb]?=some (.cells (rqL r uv (.pointer (some ⟨kb,0,none⟩))).toArray 161 (0,0)))(hk:w.heap[kb]?=some (.cells (tkL t wb).toArray 115 (0,0)))(wk:WkAt xs t.now t.x mr O wb met gone w)(nr: ¬O rb)(sy:t.y.k.size+1+t.y.n.size<=maxLen)(al0:r.al=false)(us0:r.us=[]):
  Calls prog 164 #[.pointer (some ⟨rb,0,none⟩)] w λe w'=>e=.returned (.tuple #[])/\rC xs t r uv rb O w w':=by
 have h6:=qc hb;have h7:Hid (∀w1,Calls prog 46 #[.agg #[.string t.x.k,.string t.x.n,.string t.x.r,.string t.y.k,.string t.y.n,.string t.y.r]] w1 λe w'=>e=.returned (.bool t.chk)/\Below w1.heap.size w1 w'):=λw1=>dV _ _ _ _ _ _ w1;have HC:Hid (∀w1,Below w.heap.size w w1->w1.cell? ⟨rb,4,none⟩=some (.pointer (some ⟨kb,0,none⟩))/\w1.cell? ⟨kb,6,none⟩=some (.pointer (some ⟨wb,0,none⟩))/\w1.cell? ⟨kb,3,none⟩=some (.string t.y.k)/\w1.cell? ⟨kb,4,none⟩=some (.string t.y.n)/\w1.cell? ⟨kb,5,none⟩=some (.string t.y.r)):=by
  intro w1 h0;have h1:=(h0.block _ h6).trans hb;have h2:=(h0.block _ (qc hk)).trans hk;exact⟨qa h1 (j:=4) rfl,qa h2 (j:=6) rfl,qa h2 (j:=3) rfl,qa h2 (j:=4) rfl,qa h2 (j:=5) rfl⟩
 have c4:=qa hb (j:=4) rfl;have q0:=qa hk (j:=0) rfl;have q1:=qa hk (j:=1) rfl;have q2:=qa hk (j:=2) rfl;have q3:=qa hk (j:=3) rfl;have q4:=qa hk (j:=4) rfl;have q5:=qa hk (j:=5) rfl;cases hc:t.chk with
 |true=>
  rw[hc]at h7;have HH:Hid (∀w1,Below w.heap.size w w1->Calls prog 48 #[.pointer (some ⟨wb,0,none⟩),.agg #[.string t.y.k,.string t.y.n,.string t.y.r]] w1 λe w2=> ∃b,e=.returned (.bool b)/\w2.cell? ⟨rb,2,none⟩=some (.bool r.al)/\w2.frozen? ⟨rb,2,none⟩=false/\Hid (Calls prog 115 #[.pointer (some ⟨rb,0,none⟩),.int .i64 3] (w2.setCell ⟨rb,2,none⟩ (.bool b)) λe w'=>e=.returned (.tuple #[])/\rC xs t r uv rb O w w')):=by
   intro w1 h0;refine((wk.below h0).has HW t.y sy).mono ?_;rintro e w2 ⟨b,rfl,h9,hf⟩;have h4:Frm O w w2:=(Frm.of_below h0).trans hf λ_ _ e=>e;have h2:=(h4.block rb h6 nr).trans hb;have h3:=qL h2 2 (.bool b);refine⟨b,rfl,qa h2 (j:=2) rfl,qd h2 2,?_⟩;have ha:AnsR xs t b []:=⟨λ_=>⟨rfl,h9⟩,λe=>by rw[hc]at e;cases e⟩
   refine Qo (tp:=.pointer (some ⟨kb,0,none⟩)) h4 h6 ha (by simp) (Or.inl ⟨rfl,rfl⟩) ?_ (zu _ _ _ _)
   rw[←us0];exact h3
  generalize rC xs t r uv rb O w=P at *;generalize t.x=x at *;generalize t.y=y at *;clear hb hk wk nr sy al0 us0 HW hc;go_enter func164,ntmps164
  go_wp2_with(go_at_call 46;refine(h7.out _).mono ?_;rintro e w1 ⟨rfl,h0⟩;obtain⟨d4,d6,e3,e4,e5⟩:=HC.out w1 h0;have h8:Hid (∀w2,Below w1.heap.size w1 w2->Calls prog 48 #[.pointer (some ⟨wb,0,none⟩),.agg #[.string y.k,.string y.n,.string y.r]] w2 _):=λw2 he=>HH.out w2 (h0.trans (he.mono h0.size));clear HH HC h0)
  go_region_with(go_at_call 48;refine(h8.out _ bl).mono ?_;rintro e w2 ⟨b,rfl,g2,z2,HE⟩)
  all_goals go_wp2_with(go_at_call 115;refine(Calls.mono HE.out) ?_;rintro e w3 ⟨rfl,hp⟩;have HP:Hid (P w3):=hp;clear hp)
  all_goals go_end0
  all_goals exact⟨rfl,HP.out⟩
 |false=>
  rw[hc]at h7;have HH:Hid (∀w1,Below w.heap.size w w1->Calls prog 83 #[.pointer (some ⟨wb,0,none⟩)] w1 λe w2=> ∃o n c,e=.returned (.slice o n c)/\w2.cell? ⟨rb,3,none⟩=some uv/\w2.frozen? ⟨rb,3,none⟩=false/\Hid (Calls prog 115 #[.pointer (some ⟨rb,0,none⟩),.int .i64 3] (w2.setCell ⟨rb,3,none⟩ (.slice o n c)) λe w'=>e=.returned (.tuple #[])/\rC xs t r uv rb O w w')):=by
   intro w1 h0;refine((wk.below h0).who HW).mono ?_;rintro e w2 ⟨zs,o,c,rfl,hg,hm,hd,h5,hf⟩;have h4:Frm O w w2:=(Frm.of_below h0).trans hf λ_ _ e=>e;have h2:=(h4.block rb h6 nr).trans hb;have h3:=qL h2 3 (.slice o zs.length c);refine⟨o,zs.length,c,rfl,qa h2 (j:=3) rfl,qd h2 3,?_⟩;have ha:AnsR xs t r.al zs:=⟨λe=>by rw[hc]at e;(cases e),λ_=>⟨al0,hg,hm⟩⟩
   refine Qo (tp:=.pointer (some ⟨kb,0,none⟩)) h4 h6 ha hd (Or.inr ⟨dr h5,λk hk=>Ue h0.size (qf h5 k hk).2.1⟩) ?_ (zu _ _ _ _);exact h3
  generalize rC xs t r uv rb O w=P at *;generalize t.x=x at *;generalize t.y=y at *;clear hb hk wk nr sy al0 us0 HW hc;go_enter func164,ntmps164
  go_wp2_with(first|(go_at_call 46;refine(h7.out _).mono ?_;rintro e w1 ⟨rfl,h0⟩;obtain⟨d4,d6,e3,e4,e5⟩:=HC.out w1 h0;have h8:Hid (Calls prog 83 #[.pointer (some ⟨wb,0,none⟩)] w1 _):=HH.out w1 h0;clear HH HC h0)|(go_at_call 83;refine h8.out.mono ?_;rintro e w2 ⟨o,n,c,rfl,g2,z2,HE⟩)|(go_at_call 115;refine(Calls.mono HE.out) ?_;rintro e w3 ⟨rfl,hp⟩;have HP:Hid (P w3):=hp;clear hp))
  go_end0
  exact⟨rfl,HP.out⟩
def uC(t:Tk):Rq:=⟨1,0,false,[],some t⟩
structure TkNew(xs:List BA)(mr:Nat)(R Q O:Nat->Prop)(wkb:Nat)(met:List Nod)(t:Tk)(w:World):Prop where
 wk:WkAt xs t.now t.x mr O wkb met 0 w
 lt:0<met.length
 sy:t.y.k.size+1+t.y.n.size<=maxLen
 b1:1<=t.bud
 b9:t.bud<=1000000000
 t0:0<=t.til
 t9:t.til<=1000000000
 oq: ∀k,O k-> ¬Q k
 ro: ∀k,R k-> ¬O k
theorem TkNew.rq{wkb:Nat}(h:TkNew xs mr R Q O wkb met t w):
  RqAt xs mr (w.heap.size+1) (λk=>O k\/k=w.heap.size\/k=w.heap.size+1) (uC t) (.slice none 0 0) (.pointer (some ⟨w.heap.size,0,none⟩)) ((w.alloc (.cells (tkL t wkb).toArray 115)).alloc (.cells (rqL (uC t) (.slice none 0 0) (.pointer (some ⟨w.heap.size,0,none⟩))).toArray 161)):=by
 have s1:(w.alloc (.cells (tkL t wkb).toArray 115)).heap.size=w.heap.size+1:=by show(w.heap.push _).size=_;simp
 have s2:((w.alloc (.cells (tkL t wkb).toArray 115)).alloc (.cells (rqL (uC t) (.slice none 0 0) (.pointer (some ⟨w.heap.size,0,none⟩))).toArray 161)).heap.size=w.heap.size+2:=by
  show((w.alloc (.cells (tkL t wkb).toArray 115)).heap.push _).size=_
  rw[Array.size_push,s1]
 have hb:Below w.heap.size w ((w.alloc (.cells (tkL t wkb).toArray 115)).alloc (.cells (rqL (uC t) (.slice none 0 0) (.pointer (some ⟨w.heap.size,0,none⟩))).toArray 161)):=bl;have h2:=qn (w.alloc (.cells (tkL t wkb).toArray 115)) (rqL (uC t) (.slice none 0 0) (.pointer (some ⟨w.heap.size,0,none⟩))) 161;rw[s1]at h2;refine⟨h2,Or.inl ⟨rfl,rfl⟩,(λk e=>by cases e),(λe=>by cases e),λt' e=>?_,⟨(λe=>by cases e),λe=>absurd (Or.inl rfl) e⟩,λ_=>⟨rfl,rfl,rfl⟩,Or.inr (Or.inr rfl),λk e=>?_,by show 0<=32000000;omega,by show 0<=50;omega,by show(1:Int)<=1;decide,by show(1:Int)<=6;decide⟩
 ·injection e with e
  subst e;have hO: ∀k,O k->k<w.heap.size:=h.wk.lt;exact⟨w.heap.size,wkb,O,met,rfl,Or.inr (Or.inl rfl),λk e=>Or.inl e,λe=>by have:=hO _ e;omega,qG (qn w (tkL t wkb) _) _,h.wk.below hb,λe=>by have:=hO _ e;omega,h.lt,h.sy,by have:=h.b1;show((0:Nat):Int)<t.bud;omega,h.b9,h.t0,h.t9⟩
 ·rw[s2]
  rcases e with e|e|e
  ·have:=h.wk.lt k e;omega
  ·omega
  ·omega
theorem DkAt.take(h:DkAt xs mr R db Q D tv wb ls w)(hO: ∀k,O k->k<w.heap.size/\ ¬Q k/\ ¬R k){tv':Value}(hP: ∀k,P k->O k\/w.heap.size<=k)(hR:RqAt xs mr rb P r uv tp w')
  (hl:D.rs.length<30) (hf:Frm (λk=>k=db\/tv.ownBlock=some k) w w') (hb:w'.heap[db]?=some (.cells (aG D.qu D.clock tv' (.slice (some ⟨wb,0,none⟩) D.wk.length D.wk.length)).toArray 157 (0,0))) (h8:w'.ownsRow 0 158 1 tv' (ls.length+1) (ls.map rlV++[.pointer (some ⟨rb,0,none⟩)])) (h6: ∀k,tv'.ownBlock=some k->tv.ownBlock=some k\/(w.heap.size<=k/\ ¬P k)):
  DkAt xs mr R db (λk=>Q k\/O k\/(w.heap.size<=k/\k<w'.heap.size)) {D with rs:=D.rs++[r]} tv' wb (ls++[⟨rb,P,uv,tp⟩]) w':=by
 have hg: ∀k,(k=db\/tv.ownBlock=some k)->Q k:=λk e=>by
  rcases e with e|e
  ·rw[e];exact h.dQ
  ·exact h.tQ k e
 have hd:Kpt R (λw=>zp w mr xs) w':=h.ru.frm hf λk hk e=>h.rq k hk (hg k e);have h5: ∀(i:Nat) (l:Rl),(ls++[⟨rb,P,uv,tp⟩])[i]?=some l->(i<ls.length/\ls[i]?=some l)\/(i=ls.length/\l=⟨rb,P,uv,tp⟩):=by
  intro i l hi;by_cases e:i<ls.length
  ·rw[Oz e]at hi;exact Or.inl ⟨e,hi⟩
  ·have h2:=(OE.1 hi).1
   rw[OK]at h2;simp at h2;have e2:i=ls.length:=by omega
   subst e2;rw[OA (Uc _)]at hi;simp at hi;exact Or.inr ⟨rfl,hi.symm⟩
 have h0: ∀a∈ls++[(⟨rb,P,uv,tp⟩:Rl)],a∈ls\/a=⟨rb,P,uv,tp⟩:=λa ha=>by
  rcases OS.1 ha with e|e
  ·exact Or.inl e
  ·exact Or.inr (O3.1 e)
 have h9: ∀k,P k->Q k->False:=λk e q=>by
  rcases hP k e with e|e
  ·exact(hO k e).2.1 q
  ·have:=h.lt k q;omega
 have hc: ∀k,P k->k<w'.heap.size:=hR.lt;refine⟨hb,?_,?_,?_,?_,?_,?_,Or.inl h.dQ,Or.inl h.wQ,λk e=>?_,?_,?_,?_,?_,?_,?_,hd,?_⟩
 ·rw[OK,OR];exact h8
 ·have e:D.wk.map (wkV (ls++[⟨rb,P,uv,tp⟩]))=D.wk.map (wkV ls):=by
   apply List.ext_getElem?
   intro i;rw[OF,OF];cases ho:D.wk[i]? with
   |none=>rfl
   |some o=>
    cases o with
    |none=>rfl
    |some j=>
     have hj:=h.ok.wj i j ho;show some (wkV _ (some j))=some (wkV _ (some j))
     rw[vp,vp];rw[Oz (by rw[h.len];exact hj)]
  show w'.heap[wb]?=some (Obj.cells (D.wk.map (wkV (ls++[⟨rb,P,uv,tp⟩]))).toArray _ _)
  rw[e,←h.wrow];refine hf.block wb (qc h.wrow) λe=>?_;rcases e with e|e
  ·have h1:=h.wrow
   rw[e,h.blk]at h1;injection h1 with h1;injection h1 with _ h1;revert h1;decide
  ·exact h.tw e
 ·show _=(D.rs++[r]).length
  rw[OK,OK,h.len];rfl
 ·intro i l q hi hq
  rcases h5 i l hi with⟨h1,h2⟩|⟨h1,h2⟩
  ·have h7:(D.rs++[r])[i]?=some q:=hq
   rw[Oz (by rw[←h.len];exact h1)]at h7
   have hA:=h.at' i l q h2 h7;refine hA.keep hf.size (λk hk=>hf.block k (hA.lt k hk) λe=>?_) hd.now;rcases e with e|e
   ·exact h.dn l (OZ h2) (e▸hk)
   ·exact h.tn l (OZ h2) k e hk
  ·subst h1 h2
   have h7:(D.rs++[r])[ls.length]?=some q:=hq;rw[h.len,OA (Uc _)]at h7;simp at h7;rw[←h7];exact hR
 ·intro i j l l' k hi hj pi pj
  rcases h5 i l hi with⟨h1,h2⟩|⟨h1,h2⟩
  ·rcases h5 j l' hj with⟨h3,h4⟩|⟨h3,h4⟩
   ·exact h.sep i j l l' k h2 h4 pi pj
   ·subst h4
    exact(h9 k pj (h.inQ l (OZ h2) k pi)).elim
  ·rcases h5 j l' hj with⟨h3,h4⟩|⟨h3,h4⟩
   ·subst h2
    exact(h9 k pi (h.inQ l' (OZ h4) k pj)).elim
   ·rw[h1,h3]
 ·intro a ha k pa
  rcases h0 a ha with e|e
  ·exact Or.inl (h.inQ a e k pa)
  ·subst e
   rcases hP k pa with e|e
   ·exact Or.inr (Or.inl e)
   ·exact Or.inr (Or.inr ⟨e,hc k pa⟩)
 ·rcases h6 k e with e2|e2
  ·exact Or.inl (h.tQ k e2)
  ·exact Or.inr (Or.inr ⟨e2.1,(qf h8 k e).1⟩)
 ·intro a ha pa
  rcases h0 a ha with e|e
  ·exact h.dn a e pa
  ·subst e;exact h9 _ pa h.dQ
 ·intro a ha pa
  rcases h0 a ha with e|e
  ·exact h.wn a e pa
  ·subst e;exact h9 _ pa h.wQ
 ·intro a ha k hk pa
  rcases h6 k hk with e2|e2
  ·rcases h0 a ha with e|e
   ·exact h.tn a e k e2 pa
   ·subst e;exact h9 _ pa (h.tQ k e2)
  ·rcases h0 a ha with e|e
   ·have:=h.lt k (h.inQ a e k pa);omega
   ·subst e;exact e2.2 pa
 ·intro e
  rcases h6 wb e with e2|e2
  ·exact h.tw e2
  ·have:=h.lt wb h.wQ;omega
 ·intro k e
  rcases e with e|e|e
  ·exact Ug (h.lt k e) hf.size
  ·exact Ug (hO k e).1 hf.size
  ·exact e.2
 ·exact{h.ok with rl:=by show(D.rs++[r]).length<=30;rw[OK];simp;omega,wj:=λa b he=>by show b<(D.rs++[r]).length;rw[OK];have:=h.ok.wj a b he;omega}
 ·intro k hk e
  rcases e with e|e|e
  ·exact h.rq k hk e
  ·exact(hO k e).2.2 hk
  ·have:=h.ru.lt k hk;omega
def cT(xs:List BA)(mr rb:Nat)(P:Nat->Prop)(t:Tk)(r:Rq)(w w':World):Prop:=
 Frm P w w'/\ ∃fin r' uv' tp',StepR xs t r r' fin/\RqAt xs mr rb (more P w w') r' uv' tp' w'
structure SMid(xs:List BA)(mr rb kb wb:Nat)(P O:Nat->Prop)(t:Tk)(r:Rq)(met:List Nod)(w w3:World):Prop where
 blk:w3.heap[rb]?=some (.cells (rqL {r with st:=r.st+1} (.slice none 0 0) (.pointer (some ⟨kb,0,none⟩))).toArray 161 (0,0))
 kblk:w3.heap[kb]?=some (.cells (tkL t wb).toArray 115 (0,0))
 wk:WkAt xs t.now t.x mr O wb met (r.st+1) w3
 fr:Frm P w w3
 OP: ∀k,O k->more P w w3 k
 nr: ¬O rb
 nk: ¬O kb
variable{w4:World}
theorem KX(hs:w3.heap.size<=w4.heap.size)(h:more P w w3 k):more P w w4 k:=by
 rcases h with e|e
 ·exact Or.inl e
 ·exact Or.inr ⟨e.1,Ug e.2 hs⟩
theorem SMid.later(h:SMid xs mr rb kb wb P O t r met w w3)(hb:Below w3.heap.size w3 w4):SMid xs mr rb kb wb P O t r met w w4:=
 ⟨(hb.block _ (qc h.blk)).trans h.blk,(hb.block _ (qc h.kblk)).trans h.kblk,h.wk.below hb,h.fr.trans (Frm.of_below (X:=λ_=>False) hb) (λ_ _ e=>e.elim),λk e=>KX hb.size (h.OP k e),h.nr,h.nk⟩
theorem SMid.answer(HW:Hid xh)(h:SMid xs mr rb kb wb P O t r met w w3)(h0:RqAt xs mr rb P r uv tp w)(ht:r.tk=some t)(sy:t.y.k.size+1+t.y.n.size<=maxLen)(he:r.st+1=met.length):
  Calls prog 164 #[.pointer (some ⟨rb,0,none⟩)] w3 λe w'=>e=.returned (.tuple #[])/\cT xs mr rb P t r w w':=by
 obtain⟨al0,us0,-⟩:=h0.fresh (by rw[ht];simp)
 refine(bw HW h.blk h.kblk h.wk h.nr sy al0 us0).mono ?_;rintro e w' ⟨rfl,al,us,uv',ha,h6,h8,h7,hu⟩;have hf:Frm P w w':=h.fr.trans h7 λj hj e=>by
  rcases e with e|e
  ·rcases h.OP j e with e|e
   ·exact e
   ·omega
  ·rw[e];exact h0.rP
 refine⟨rfl,hf,true,⟨3,r.st+1,al,us,none⟩,uv',.pointer none,⟨λn hn=>⟨λ_=>(h.wk.cost hn).2 he,λe=>by cases e⟩,λ_=>h.wk.allN he,λ_=>⟨rfl,rfl,rfl,ha⟩,(λe=>by cases e),(λe=>by cases e)⟩,?_⟩
 have h5: ∀k,more P w w' k->k<w'.heap.size:=λk e=>by
  rcases e with e|e
  ·exact Ug (h0.lt k e) hf.size
  ·exact e.2
 have h9:=h.wk.gl.2;refine⟨h8,?_,?_,λ_=>rfl,(λt e=>by cases e),⟨λ_=>by show¬((3:Int)=1\/(3:Int)=2);decide,λ_=>rfl⟩,λe=>absurd rfl e,Or.inl h0.rP,h5,by show r.st+1<=32000000;omega,h6,by show(1:Int)<=3;decide,by show(3:Int)<=6;decide⟩
 ·rcases hu with⟨rfl,rfl⟩|⟨h1,-⟩
  ·exact Or.inl ⟨rfl,rfl⟩
  ·exact h1
 ·intro k hk
  rcases hu with⟨rfl,-⟩|⟨h1,h2⟩
  ·cases hk
  ·have h3:=h2 k hk
   have h4:=h.fr.size;refine⟨Or.inr ⟨by omega,(zG h1 k hk).1⟩,λe=>?_⟩
   have:=h0.lt _ h0.rP;omega
theorem SMid.on(h:SMid xs mr rb kb wb P O t r met w w3)(h0:RqAt xs mr rb P r uv tp w)(ht:r.tk=some t)(h1:P kb){O0:Nat->Prop}{met0:List Nod}(hT:TkAt xs mr kb O0 wb met0 t r.st w)(he:r.st+1≠met.length)(hb:(r.st:Int)+1≠t.bud):cT xs mr rb P t r w w3:=by
 obtain⟨al0,us0,h4⟩:=h0.fresh (by rw[ht];simp)
 have h3:=h.wk.gl;refine⟨h.fr,false,{r with st:=r.st+1},.slice none 0 0,.pointer (some ⟨kb,0,none⟩),⟨λn hn=>⟨λe=>by(cases e),λ_=>?_⟩,(λe=>by cases e),(λe=>by cases e),λ_ e=>absurd e hb,λ_ _=>rfl⟩,?_⟩
 ·have:=(h.wk.cost hn).1;omega
 ·refine⟨h.blk,Or.inl ⟨rfl,us0⟩,(λk e=>by cases e),(λe=>by rw[show({r with st:=r.st+1}:Rq).tk=r.tk from rfl,ht]at e;cases e),λt' e=>?_,h0.live,λ_=>⟨al0,us0,rfl⟩,Or.inl h0.rP,λk e=>?_,by show r.st+1<=32000000;omega,h0.ul,h0.is0,h0.is9⟩
  ·have e2:r.tk=some t':=e
   rw[ht]at e2;injection e2 with e2;subst e2;have h2:=hT.bd;exact⟨kb,wb,O,met,rfl,Or.inl h1,h.OP,h.nr,h.kblk,h.wk,h.nk,by show r.st+1<met.length;omega,hT.sy,by show((r.st+1:Nat):Int)<t.bud;omega,hT.b9,hT.t0,hT.t9⟩
  ·rcases e with e|e
   ·exact Ug (h0.lt k e) h.fr.size
   ·exact e.2
theorem SMid.budget(h:SMid xs mr rb kb wb P O t r met w w3)(h0:RqAt xs mr rb P r uv tp w)(ht:r.tk=some t)(he:r.st+1≠met.length)(hb:(r.st:Int)+1=t.bud):
  Calls prog 115 #[.pointer (some ⟨rb,0,none⟩),.int .i64 4] w3 λe w'=>e=.returned (.tuple #[])/\cT xs mr rb P t r w w':=by
 obtain⟨al0,us0,h3⟩:=h0.fresh (by rw[ht];simp)
 have h4:=h.wk.gl;refine(cS h.blk 4).mono ?_;rintro e w' ⟨rfl,h2,h1,-⟩;have hf:Frm P w w':=h.fr.trans h1 λj hj e=>by rw[e];exact h0.rP
 refine⟨rfl,hf,false,{r with st:=r.st+1,is:=4,tk:=none},.slice none 0 0,.pointer none,⟨λn hn=>⟨λe=>by(cases e),λ_=>?_⟩,(λe=>by cases e),(λe=>by cases e),λ_ _=>rfl,λ_ e=>absurd hb e⟩,?_⟩
 ·have:=(h.wk.cost hn).1;omega
 ·refine⟨h2,Or.inl ⟨rfl,us0⟩,(λk e=>by cases e),λ_=>rfl,(λt e=>by cases e),⟨λ_=>by show¬((4:Int)=1\/(4:Int)=2);decide,λ_=>rfl⟩,λe=>absurd rfl e,Or.inl h0.rP,λk e=>?_,by show r.st+1<=32000000;omega,h0.ul,by show(1:Int)<=4;decide,by show(4:Int)<=6;decide⟩
  rcases e with e|e
  ·exact Ug (h0.lt k e) hf.size
  ·exact e.2
theorem Zr(HW:Hid xh)(h:RqAt xs mr rb P r uv tp w)(ht:r.tk=some t)(K:Kpt R (λw=>zp w mr xs) w)(hR: ∀k,R k-> ¬P k):
  Calls prog 112 #[.pointer (some ⟨rb,0,none⟩)] w λe w'=>e=.returned (.tuple #[])/\cT xs mr rb P t r w w':=by
 obtain⟨kb,wb,O,met,rfl,ho,h8,h5,hT⟩:=h.tk t ht;obtain⟨al0,us0,rfl⟩:=h.fresh (by rw[ht];simp)
 have hx:=qc h.blk;have hf:kb≠rb:=by
  intro e;have h1:=hT.blk;rw[e,h.blk]at h1;injection h1 with h1;injection h1 with _ h1;revert h1;decide
 have h6:(w.setCell ⟨rb,1,none⟩ (.int .i64 ((r.st:Int)+1))).heap[rb]?=some (.cells (rqL {r with st:=r.st+1} (.slice none 0 0) (.pointer (some ⟨kb,0,none⟩))).toArray 161 (0,0)):=qL h.blk 1 _;have h3:=zu w rb 1 (.int .i64 ((r.st:Int)+1));have h4:(w.setCell ⟨rb,1,none⟩ (.int .i64 ((r.st:Int)+1))).heap[kb]?=_:=(h3.block kb (qc hT.blk) hf).trans hT.blk;have hc:WkAt xs t.now t.x mr O wb met r.st (w.setCell ⟨rb,1,none⟩ (.int .i64 ((r.st:Int)+1))):=hT.wk.keep h3.size (λk e=>h3.block k (hT.wk.lt k e) λe2=>h5 (e2▸e)) (K.frm h3 λk hk e=>hR k hk (e▸h.rP)).now;have hg:Hid (Calls prog 140 #[.pointer (some ⟨wb,0,none⟩)] (w.setCell ⟨rb,1,none⟩ (.int .i64 ((r.st:Int)+1))) λe w2=>e=.returned (.tuple #[])/\w2.cell? ⟨rb,4,none⟩=some (.pointer (some ⟨kb,0,none⟩))/\w2.cell? ⟨kb,6,none⟩=some (.pointer (some ⟨wb,0,none⟩))/\Hid (Calls prog 139 #[.pointer (some ⟨wb,0,none⟩)] w2 λe w3=> ∃fin:Bool,e=.returned (.bool fin)/\Hid (w3.cell? ⟨rb,1,none⟩=some (.int .i64 ((r.st:Int)+1))/\w3.cell? ⟨rb,4,none⟩=some (.pointer (some ⟨kb,0,none⟩))/\w3.cell? ⟨kb,7,none⟩=some (.int .i64 t.bud))/\Hid (fin=true->Calls prog 164 #[.pointer (some ⟨rb,0,none⟩)] w3 λe w'=>e=.returned (.tuple #[])/\cT xs mr rb P t r w w')/\Hid (fin=false-> ∀w4,Below w3.heap.size w3 w4->((r.st:Int)+1=t.bud->Calls prog 115 #[.pointer (some ⟨rb,0,none⟩),.int .i64 4] w4 λe w'=>e=.returned (.tuple #[])/\cT xs mr rb P t r w w')/\((r.st:Int)+1≠t.bud->cT xs mr rb P t r w w4)))):=by
  refine(hc.step HW hT.lt).mono ?_;rintro e w2 ⟨rfl,ha,met',hi⟩;have hl:=(ha.block rb (qc h6) h5).trans h6;have hd:=(ha.block kb (qc h4) hT.nO).trans h4;have hz:=yG w ⟨rb,1,none⟩ (.int .i64 ((r.st:Int)+1));have hv:=qc hT.blk;have hm:SMid xs mr rb kb wb P (more O (w.setCell ⟨rb,1,none⟩ (.int .i64 ((r.st:Int)+1))) w2) t r met' w w2:=by
   refine⟨hl,hd,hi,(h3.mono λk _ e=>e▸h.rP).trans ha λk _ e=>h8 k e,λk e=>?_,λe=>?_,λe=>?_⟩
   ·rcases e with e|e
    ·exact Or.inl (h8 k e)
    ·exact Or.inr ⟨by omega,e.2⟩
   ·rcases e with e|e
    ·exact h5 e
    ·omega
   ·rcases e with e|e
    ·exact hT.nO e
    ·omega
  refine⟨rfl,qa hl (j:=4) rfl,qa hd (j:=6) rfl,?_⟩;refine hi.ended.mono ?_;rintro e w3 ⟨rfl,hr⟩;have h0:=hm.later hr;refine⟨_,rfl,⟨qa h0.blk (j:=1) rfl,qa h0.blk (j:=4) rfl,qa h0.kblk (j:=7) rfl⟩,λe=>h0.answer HW h ht hT.sy (of_decide_eq_true e),λe w4 hj=>⟨λhb=>(h0.later hj).budget h ht (of_decide_eq_false e) hb,λhb=>(h0.later hj).on h ht ho hT (of_decide_eq_false e) hb⟩⟩
 have c1:=qa h.blk (j:=1) rfl;have z1:=qd h.blk 1;have hu:=qa h6 (j:=4) rfl;have hs:=qa h4 (j:=6) rfl;have hy:=h.sl;generalize cT xs mr rb P t r w=PP at *;generalize t.bud=bud at *;generalize r.st=st at *;clear h ht K hR hT h8 h5 al0 us0 h6 h3 h4 hc HW ho hf;go_enter func112,ntmps112
 go_wp2_with(first|(go_at_call 140;refine hg.out.mono ?_;rintro e w2 ⟨rfl,e4,e6,he⟩;clear hg hu hs)|(go_at_call 139;refine he.out.mono ?_;rintro e w3 ⟨fin,rfl,hn,HA,HB⟩;clear he e4 e6)|(go_at_call 164;refine(Calls.mono (HA.out (by assumption))) ?_;rintro e w5 ⟨rfl,hp⟩;have HP:Hid (PP w5):=hp;clear hp))
 ·go_end0
  exact⟨rfl,HP.out⟩
 ·have h9:fin=false:=by assumption
  obtain⟨f1,f4,f7⟩:=hn.out;have h7:Hid (∀(w4:World),Below w3.heap.size w3 w4->(((st:Int)+1=bud)->Calls prog 115 #[.pointer (some ⟨rb,0,none⟩),.int .i64 4] w4 λe w'=>e=.returned (.tuple #[])/\PP w')/\((st:Int)+1≠bud->PP w4)):=HB.out h9;clear HA HB hn c1 z1;by_cases h2:(st:Int)+1=bud
  ·have hq:((st:Int)+1==bud)=true:=by simp[h2]
   have HE:Hid (∀w4,Below w3.heap.size w3 w4->Calls prog 115 #[.pointer (some ⟨rb,0,none⟩),.int .i64 4] w4 λe w'=>e=.returned (.tuple #[])/\PP w'):=λw4 hb=>(h7.out w4 hb).1 h2;clear h7 h2
   go_region
   all_goals go_wp2_with(go_at_call 115;refine(Calls.mono (HE.out _ bl)) ?_;rintro e w5 ⟨rfl,hp⟩;have HP:Hid (PP w5):=hp;clear hp)
   all_goals go_end0
   all_goals exact⟨rfl,HP.out⟩
  ·have hq:((st:Int)+1==bud)=false:=by simpa using h2
   have HE:Hid (∀w4,Below w3.heap.size w3 w4->PP w4):=λw4 hb=>(h7.out w4 hb).2 h2;clear h7 h2
   go_region
   all_goals go_wp2
   all_goals go_end0
   all_goals exact⟨rfl,HE.out _ bl⟩
