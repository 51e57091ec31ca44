import Derived.Test.YtalmoiogbdahcaaGreatAAllF
import Derived.Test.YtalmoiogbdahcaaGreatAAllFb
open Go.Proofs.Tryz
namespace Go.Proofs.YtalmoiogbdahcaaGreat
set_option maxRecDepth 100000
set_option maxHeartbeats 8000000
open Go.RowKit Go.Shelf
theorem lA(s:BA)(hs:s.size<=maxLen):uq (qj s):=by
 have h0:(rd0 s).rest.size=s.size:=rfl;have h1:=pS (rd0 s);rw[h0]at h1;refine⟨Ue h1.1 hs,?_,Ue h1.2 hs⟩;have h2:=xV (rd0 s);have h3:=xE (rd0 s).name {data:= #[58]};have h4:=jy ((rd0 s).name.must {data:= #[58]}).rest;have:(qj s).n.size<=((rd0 s).name.must {data:= #[58]}).rest.size:=h4;omega
structure KD(w:World)(B gb:Nat)(g:Pg)(m:List (Value×Value))(lo:Nat)(xs now:List BA)(R Q:Nat->Prop)(D:Dk):Prop where
 pg:zU w gb g
 ru:Kpt R (λw=>zt w yX g.mb m/\RMap w lo xs m) w
 okx:xN xs=none
 few:xs.length<=12
 tv:zH w g.tv now
 sorted:zy now
 nl:now.length<=50
 tup: ∀s∈now,pU (qh xs) s
 lk:g.lk=0
 ver0:0<=g.ver
 verV:g.ver<=4611686018427387904
 gB:B<=gb
 dk: ∃db tv wb ls,g.dk=.pointer (some ⟨db,0,none⟩)/\DkAt xs g.mb R db Q D tv wb ls w
 dw:DkW D
 gQ: ¬Q gb
 gR: ¬R gb
 vQ: ∀k,g.tv.ownBlock=some k-> ¬Q k
 QB: ∀k,Q k->B<=k
variable{B gb lo:Nat}{D:Dk}{Q R:Nat->Prop}{g:Pg}{m:List (Value×Value)}{now xs:List BA}{w:World}
theorem KD.lt(h:KD w B gb g m lo xs now R Q D):(∀k,Q k->k<w.heap.size)/\(∀k,R k-> ¬Q k):=by
 obtain⟨db,tv,wb,ls,-,hd⟩:=h.dk;exact⟨hd.lt,hd.rq⟩
variable{w':World}
theorem KD.later(h:KD w B gb g m lo xs now R Q D)(hb:Below w.heap.size w w'):KD w' B gb g m lo xs now R Q D:=by
 obtain⟨db,tv,wb,ls,h1,hd⟩:=h.dk;exact{h with pg:=yr h.pg hb,ru:=h.ru.below hb,tv:=xJ h.tv λk hk=>hb.block k (zG h.tv k hk).1,dk:=⟨db,tv,wb,ls,h1,hd.below hb⟩}
theorem KD.doc(h:KD w B gb g m lo xs now R Q D):DocOk xs now:=by
 refine⟨λy hy=>?_,h.few,λs hs=>?_,h.nl⟩
 ·obtain⟨j,hj⟩:=OX.1 hy
  exact bG h.okx j y hj
 ·rw[←jv];exact(h.tup s hs).1
theorem KD.gate(h:KD w B gb g m lo xs now R Q D)(s:BA)(hs:s.size<=maxLen):GateQ (ce xs now s) xs now gb g w:=
 bc h.pg h.lk ⟨_,_,h.ru.now.1,h.ru.now.2⟩ h.tv h.nl h.few (λy hy=>(xL y (h.doc.hv y hy)).1) h.doc.ht s (lA s hs).2.2
theorem lB(ht:zH w g.tv now)(hg:zU w gb g): ∀k,g.tv.ownBlock=some k->k≠gb:=by
 intro k hk e;obtain⟨-,cur,h1⟩:=zG ht k hk;unfold zU at hg;rw[e,hg]at h1;injection h1 with h1;injection h1 with _ h1;revert h1;decide
variable{D':Dk}{Q':Nat->Prop}{c:Bool}{db wb:Nat}{ls:List Rl}{tv:Value}
theorem KD.turn(h:KD w B gb g m lo xs now R Q D)(hf:Frm (λk=>Q k\/k=gb) w w')(h0:zU w' gb {g with cl:=c})(h1:g.dk=.pointer (some ⟨db,0,none⟩))(hd:DkAt xs g.mb R db Q' D' tv wb ls w')(hw:DkW D')(hQ: ∀k,Q' k->more Q w w' k):KD w' B gb {g with cl:=c} m lo xs now R Q' D':=by
 have h2:=qc h.pg;have hB:B<=w.heap.size:=Ue h.gB (Ub h2);refine{h with pg:=h0,ru:=h.ru.frm hf λk hk e=>?_,tv:=xJ h.tv λk hk=>hf.block k (zG h.tv k hk).1 λe=>?_,dk:=⟨db,tv,wb,ls,h1,hd⟩,dw:=hw,gQ:=λe=>?_,vQ:=λk hk e=>?_,QB:=λk e=>?_}
 ·rcases e with e|e
  ·exact h.lt.2 k hk e
  ·exact h.gR (e▸hk)
 ·rcases e with e|e
  ·exact h.vQ k hk e
  ·exact lB h.tv h.pg k hk e
 ·rcases hQ _ e with e|e
  ·exact h.gQ e
  ·omega
 ·rcases hQ _ e with e|e
  ·exact h.vQ k hk e
  ·have:=(zG h.tv k hk).1;omega
 ·rcases hQ _ e with e|e
  ·exact h.QB k e
  ·omega
theorem KD.lockd(h:KD w B gb g m lo xs now R Q D): ∃db tv wb ls,g.dk=.pointer (some ⟨db,0,none⟩)/\DkAt xs g.mb R db Q D tv wb ls (w.setCell ⟨gb,0,none⟩ (.int .i32 1))/\zU (w.setCell ⟨gb,0,none⟩ (.int .i32 1)) gb {g with lk:=1}/\Kpt R (λw=>zt w yX g.mb m/\RMap w lo xs m) (w.setCell ⟨gb,0,none⟩ (.int .i32 1))/\zH (w.setCell ⟨gb,0,none⟩ (.int .i32 1)) g.tv now/\Frm (λk=>k=gb) w (w.setCell ⟨gb,0,none⟩ (.int .i32 1))/\(w.setCell ⟨gb,0,none⟩ (.int .i32 1)).heap.size=w.heap.size:=by
 obtain⟨db,tv,wb,ls,h1,hd⟩:=h.dk;have hf:Frm (λk=>k=gb) w (w.setCell ⟨gb,0,none⟩ (.int .i32 1)):=⟨rfl,rfl,rfl,by simp[World.setCell],λk _ hx=>Ot _ _ _ _ hx⟩
 refine⟨db,tv,wb,ls,h1,hd.keep hf.size (λk hk=>hf.block k (hd.lt k hk) λe=>h.gQ (e▸hk)) (λk hk=>hf.block k (hd.ru.lt k hk) λe=>h.gR (e▸hk)),yV h.pg 1,h.ru.frm hf λk hk e=>h.gR (e▸hk),xJ h.tv λk hk=>hf.block k (zG h.tv k hk).1 (lB h.tv h.pg k hk),hf,by simp[World.setCell]⟩
def bW(wk:Nat)(qu:Int):Dk:=⟨qu,0,[],List.replicate wk none⟩
theorem ZE{wk:Nat}{qu:Int}(h:uG w lo db wk qu)(h1:1<=wk)(h4:wk<=4)(q1:1<=qu)(q6:qu<=6){mr:Nat}(ru:Kpt R (λw=>zp w mr xs) w)(hR: ∀k,R k->(∃es cl,w.heap[k]?=some (.map es cl))\/ ∃cur,w.heap[k]?=some (.cells cur 106 (0,0))):
  ∃wb,lo<=wb/\DkAt xs mr R db (λk=>k=db\/k=wb) (bW wk qu) (.slice none 0 0) wb [] w:=by
 obtain⟨h5,wb,h3,hb,hr⟩:=h;have hq: ∀k,R k-> ¬(k=db\/k=wb):=by
  intro k hk e;rcases e with e|e
  ·rcases hR k hk with⟨es,cl,h2⟩|⟨cur,h2⟩
   ·rw[e,hb]at h2;injection h2 with h2;cases h2
   ·rw[e,hb]at h2;injection h2 with h2;injection h2 with _ h2;revert h2;decide
  ·rcases hR k hk with⟨es,cl,h2⟩|⟨cur,h2⟩
   ·rw[e,hr]at h2;injection h2 with h2;cases h2
   ·rw[e,hr]at h2;injection h2 with h2;injection h2 with _ h2;revert h2;decide
 refine⟨wb,h3,?_⟩;have hm:(List.replicate wk (none:Option Nat)).map (wkV [])=cU wk:=by rw[List.map_replicate];rfl
 refine⟨?_,World.ownsRow_nil _ _ _ _,?_,rfl,(λi l r hl=>by simp at hl),(λi j l l' k hl=>by simp at hl),(λl hl=>by cases hl),Or.inl rfl,Or.inr rfl,(λk e=>by cases e),(λl hl=>by cases hl),(λl hl=>by cases hl),(λl hl=>by cases hl),(λe=>by cases e),λk e=>?_,?_,ru,hq⟩
 ·show _=some (Obj.cells (aG qu 0 (.slice none 0 0) (.slice (some ⟨wb,0,none⟩) (List.replicate wk (none:Option Nat)).length (List.replicate wk (none:Option Nat)).length)).toArray _ _)
  rw[ON];exact hb
 ·show _=some (Obj.cells ((List.replicate wk (none:Option Nat)).map (wkV [])).toArray _ _)
  rw[hm];exact hr
 ·rcases e with e|e
  ·rw[e];exact qc hb
  ·rw[e];exact qc hr
 ·refine⟨?_,?_,?_,?_,?_,q1,q6,λi j h0=>?_⟩
  ·show 1<=(List.replicate wk (none:Option Nat)).length;rw[ON];exact h1
  ·show(List.replicate wk (none:Option Nat)).length<=4;rw[ON];exact h4
  ·show 0<=30;omega
  ·show(0:Int)<=0;decide
  ·show(0:Int)<=1000000000;decide
  ·have h2:(List.replicate wk (none:Option Nat))[i]?=some (some j):=h0
   rw[OG]at h2;split at h2
   ·injection h2 with h2;cases h2
   ·cases h2
theorem GV(wk:Nat)(qu:Int):DkW (bW wk qu):=by
 intro i j r hi hr;have h2:([]:List Rq)[j]?=some r:=hr;simp at h2
def OpP(w:World)(B gb:Nat)(g:Pg)(m:List (Value×Value))(lo:Nat)(xs now:List BA)(R Q:Nat->Prop)(c:Bool)(Rel:Dk->Prop)(w':World):Prop:=
 ∃Q' D',Rel D'/\KD w' B gb {g with cl:=c} m lo xs now R Q' D'/\Frm (λk=>Q k\/k=gb) w w'/\ ∀k,Q' k->more Q w w' k
variable{Rel:Dk->Prop}{w2:World}
theorem KD.done(h:KD w B gb g m lo xs now R Q D)(hf:Frm (λk=>Q k\/k=gb) w w2)(h4:zU w2 gb {g with lk:=1,cl:=c})(h7:g.dk=.pointer (some ⟨db,0,none⟩))(hd:DkAt xs g.mb R db Q' D' tv wb ls w2)(hw:DkW D')(hQ: ∀k,Q' k->more Q w w2 k)(hr:Rel D'):OpP w B gb g m lo xs now R Q c Rel (w2.setCell ⟨gb,0,none⟩ (.int .i32 0)):=by
 have h8:=qc h.pg;have hz:(w2.setCell ⟨gb,0,none⟩ (.int .i32 0)).heap.size=w2.heap.size:=by simp[World.setCell]
 have h0:Frm (λk=>k=gb) w2 (w2.setCell ⟨gb,0,none⟩ (.int .i32 0)):=⟨rfl,rfl,rfl,by rw[hz];exact Uc _,λk _ hx=>Ot _ _ _ _ hx⟩
 have h2:Frm (λk=>Q k\/k=gb) w (w2.setCell ⟨gb,0,none⟩ (.int .i32 0)):=hf.trans h0 λk _ e=>Or.inr e;have h6: ¬Q' gb:=λe=>by
  rcases hQ _ e with e|e
  ·exact h.gQ e
  ·omega
 have h3: ∀k,Q' k->more Q w (w2.setCell ⟨gb,0,none⟩ (.int .i32 0)) k:=λk e=>by
  rcases hQ k e with e|e
  ·exact Or.inl e
  ·exact Or.inr ⟨e.1,by rw[hz];exact e.2⟩
 have h1:zU (w2.setCell ⟨gb,0,none⟩ (.int .i32 0)) gb {g with cl:=c}:=by
  have:=yV h4 0;obtain⟨lk,mb,tv',ver,dk,cl⟩:=g;have h5:lk=0:=h.lk;subst h5;exact this
 exact⟨Q',D',hr,h.turn h2 h1 h7 (hd.keep h0.size (λk hk=>h0.block k (hd.lt k hk) λe=>h6 (e▸hk)) (λk hk=>h0.block k (hd.ru.lt k hk) λe=>h.gR (e▸hk))) hw h3,h2,h3⟩
theorem KD.same(h:KD w B gb g m lo xs now R Q D)(hb:Below w.heap.size (w.setCell ⟨gb,0,none⟩ (.int .i32 1)) w2)(hr:Rel D):OpP w B gb g m lo xs now R Q g.cl Rel (w2.setCell ⟨gb,0,none⟩ (.int .i32 0))/\zU w2 gb {g with lk:=1}:=by
 obtain⟨db,tv,wb,ls,h1,hd,h3,-,-,hf,hz⟩:=h.lockd;have h2:Below (w.setCell ⟨gb,0,none⟩ (.int .i32 1)).heap.size (w.setCell ⟨gb,0,none⟩ (.int .i32 1)) w2:=by rw[hz];exact hb
 have h0:=yr h3 h2;refine⟨h.done (D':=D) (Q':=Q) ((hf.mono λk _ e=>Or.inr e).trans (Frm.of_below (X:=λ_=>False) h2) λ_ _ e=>e.elim) h0 h1 (hd.below h2) h.dw (λk e=>Or.inl e) hr,h0⟩
open Go.RowKit Go.Shelf Go.MuLone
theorem KD.after(h:KD w B gb g m lo xs now R Q D)(h2:g.dk=.pointer (some ⟨db,0,none⟩))(hf:Frm Q (w.setCell ⟨gb,0,none⟩ (.int .i32 1)) w2)(hd:DkAt xs g.mb R db Q' D' tv wb ls w2)(hw:DkW D')(hQ: ∀k,Q' k->more Q w w2 k)(hr:Rel D'):
  w2.cell? ⟨gb,0,none⟩=some (.int .i32 1)/\w2.frozen? ⟨gb,0,none⟩=false/\OpP w B gb g m lo xs now R Q g.cl Rel (w2.setCell ⟨gb,0,none⟩ (.int .i32 0)):=by
 obtain⟨-,-,-,-,-,-,h1,-,-,h3,h4⟩:=h.lockd;have hg:=qc h1;have h0:zU w2 gb {g with lk:=1}:=(hf.block gb hg h.gQ).trans h1;exact⟨qa h0 (j:=0) rfl,qd h0 0,h.done ((h3.mono λk _ e=>Or.inr e).trans hf λk _ e=>Or.inl e) h0 h2 hd hw hQ hr⟩
variable{w1:World}
theorem K2(hz:w1.heap.size=w.heap.size){k:Nat}(e:more Q w1 w2 k):more Q w w2 k:=by
 rcases e with e|e
 ·exact Or.inl e
 ·exact Or.inr ⟨by omega,e.2⟩
variable{i:Nat}
theorem K3(hs:DStep xs D i D')(hW:DkW D)(hl: ∀(k:Nat) (r:Rq),D.rs[k]?=some r->r.is=1->r.tk≠none):DkW D':=by
 cases hs with
 |idle D1 h1 h2=>
  rw[h1];split
  ·exact Qp hW hl i
  ·exact hW
 |work D1 h1 j h2 r r' t fin hr ht hs=>exact pP _
theorem JG(HW:Hid xh)(h:KD w B gb g m lo xs now R Q D)(hc:g.cl=false)(hi:i<D.wk.length):
  Calls prog 28 #[.pointer (some ⟨gb,0,none⟩),.int .i64 i] w λe w'=>e=.returned (.int .i64 0)/\OpP w B gb g m lo xs now R Q g.cl (DStep xs D i) w':=by
 obtain⟨db,tv,wb,ls,h3,h2,h1,-,-,h9,h5⟩:=h.lockd;have hM:=h.dw;have h6:Hid (Calls prog 62 #[.pointer (some ⟨db,0,none⟩),.int .i64 i] (w.setCell ⟨gb,0,none⟩ (.int .i32 1)) λe w'=>e=.returned (.bool true)/\w'=(w.setCell ⟨gb,0,none⟩ (.int .i32 1))):=by
  refine(lm h2 (i:Int)).mono ?_;rintro e w' ⟨rfl,hw⟩;have e2:(decide ((0:Int)<=i) && decide ((i:Int)<(D.wk.length:Nat)))=true:=by
   rw[Bool.and_eq_true];exact⟨Up (by omega),Up (by omega)⟩
  exact⟨by rw[e2],hw⟩
 have h7:Hid (Calls prog 63 #[.pointer (some ⟨db,0,none⟩),.int .i64 i] (w.setCell ⟨gb,0,none⟩ (.int .i32 1)) λe w2=>e=.returned (.tuple #[])/\w2.cell? ⟨gb,0,none⟩=some (.int .i32 1)/\w2.frozen? ⟨gb,0,none⟩=false/\Hid (OpP w B gb g m lo xs now R Q g.cl (DStep xs D i) (w2.setCell ⟨gb,0,none⟩ (.int .i32 0)))):=by
  refine(Zs HW h2 hM hi).mono ?_;rintro e w2 ⟨rfl,hf,D',ls',hs,hD⟩;exact⟨rfl,h.after h3 hf hD (K3 hs hM h2.liveR) (λk e=>K2 h5 e) hs⟩
 have h0:=qa h.pg (j:=0) rfl;have f0:=qd h.pg 0;have c5:=qa h1 (j:=5) rfl;have c6:=qa h1 (j:=6) rfl;have h4:=h.lk;have h8:=qc h.pg;clear h h2 h1 h9 h5;obtain⟨lk,mb,tvg,ver,dk,cl⟩:=g;dsimp only at h4 h3;subst h4;subst h3;dsimp only at hc;subst hc;generalize OpP w B gb _ m lo xs now R Q _ (DStep xs D i)=PP at *;clear hi hM HW;go_enter_defers func28,ntmps28
 go_wp2_with(first|(go_at_call 51;refine(lock_free Tryz.muLib ⟨gb,0,none⟩ _ h0 f0).mono ?_;rintro e w1 ⟨rfl,ha⟩;subst w1)|(go_at_call 62;refine h6.out.mono ?_;rintro e w2 ⟨rfl,hb⟩;subst w2)|(go_at_call 63;refine(Calls.mono h7.out) ?_;rintro e w3 ⟨rfl,k0,z0,HP⟩))
 refine leaves_cons (f:=52) (args:= #[.pointer (some ⟨gb,0,none⟩)]) (by simp) (by simp[go_sem]) ?_
 refine(unlock_deferred Tryz.muLib ⟨gb,0,none⟩ .returning _ k0 z0).mono ?_;rintro e u' w6 ⟨rfl,rfl,rfl⟩;exact⟨.int .i64 0,by simp[results,results28,go_sem],rfl,HP.out⟩
theorem bX(h:KD w B gb g m lo xs now R Q D)(hc:g.cl=true)(i:Int):
  Calls prog 28 #[.pointer (some ⟨gb,0,none⟩),.int .i64 i] w λe w'=>e=.returned (.int .i64 7)/\OpP w B gb g m lo xs now R Q g.cl (λD'=>D'=D) w':=by
 obtain⟨db,tv,wb,ls,h5,h6,h2,-,-,h8,h9⟩:=h.lockd;obtain⟨h1,h3⟩:=h.same (Ou _ _) (Rel:=λD'=>D'=D) rfl;have k0:=qa h3 (j:=0) rfl;have z0:=qd h3 0;have HP:Hid (OpP w B gb g m lo xs now R Q g.cl (λD'=>D'=D) ((w.setCell ⟨gb,0,none⟩ (.int .i32 1)).setCell ⟨gb,0,none⟩ (.int .i32 0))):=h1;clear h1 h3;have h0:=qa h.pg (j:=0) rfl;have f0:=qd h.pg 0;have c5:=qa h2 (j:=5) rfl;have c6:=qa h2 (j:=6) rfl;have h4:=h.lk;have h7:=qc h.pg;clear h h6 h2 h8 h9;obtain⟨lk,mb,tvg,ver,dk,cl⟩:=g;dsimp only at h4 h5;subst h4;subst h5;dsimp only at hc;subst hc;generalize OpP w B gb _ m lo xs now R Q _ (λD'=>D'=D)=PP at *;go_enter_defers func28,ntmps28
 go_wp2_with(first|(go_at_call 51;refine(lock_free Tryz.muLib ⟨gb,0,none⟩ _ h0 f0).mono ?_;rintro e w1 ⟨rfl,ha⟩;subst w1))
 refine leaves_cons (f:=52) (args:= #[.pointer (some ⟨gb,0,none⟩)]) (by simp) (by simp[go_sem]) ?_
 refine(unlock_deferred Tryz.muLib ⟨gb,0,none⟩ .returning _ k0 z0).mono ?_;rintro e u' w6 ⟨rfl,rfl,rfl⟩;exact⟨.int .i64 7,by simp[results,results28,go_sem],rfl,HP.out⟩
theorem JH(h:KD w B gb g m lo xs now R Q D)(hc:g.cl=false):
  Calls prog 31 #[.pointer (some ⟨gb,0,none⟩)] w λe w'=>e=.returned (.tuple #[])/\OpP w B gb g m lo xs now R Q g.cl (λD'=>D'=uZ D) w':=by
 obtain⟨db,tv,wb,ls,h2,h3,h1,-,-,h7,h8⟩:=h.lockd;have hM:=h.dw;have h5:Hid (Calls prog 66 #[.pointer (some ⟨db,0,none⟩)] (w.setCell ⟨gb,0,none⟩ (.int .i32 1)) λe w2=>e=.returned (.tuple #[])/\w2.cell? ⟨gb,0,none⟩=some (.int .i32 1)/\w2.frozen? ⟨gb,0,none⟩=false/\Hid (OpP w B gb g m lo xs now R Q g.cl (λD'=>D'=uZ D) (w2.setCell ⟨gb,0,none⟩ (.int .i32 0)))):=by
  refine(Zt h3).mono ?_;rintro e w2 ⟨rfl,hf,hz,ls',hD⟩;exact⟨rfl,h.after h2 hf hD (pP _) (λk e=>Or.inl e) rfl⟩
 have h0:=qa h.pg (j:=0) rfl;have f0:=qd h.pg 0;have c5:=qa h1 (j:=5) rfl;have c6:=qa h1 (j:=6) rfl;have h4:=h.lk;have h6:=qc h.pg;clear h h3 h1 h7 h8;obtain⟨lk,mb,tvg,ver,dk,cl⟩:=g;dsimp only at h4 h2;subst h4;subst h2;dsimp only at hc;subst hc;generalize OpP w B gb _ m lo xs now R Q _ (λD'=>D'=uZ D)=PP at *;clear hM;go_enter_defers func31,ntmps31
 go_wp2_with(first|(go_at_call 51;refine(lock_free Tryz.muLib ⟨gb,0,none⟩ _ h0 f0).mono ?_;rintro e w1 ⟨rfl,h9⟩;subst w1)|(go_at_call 66;refine(Calls.mono h5.out) ?_;rintro e w3 ⟨rfl,k0,z0,HP⟩))
 refine leaves_cons (f:=52) (args:= #[.pointer (some ⟨gb,0,none⟩)]) (by simp) (by simp[go_sem]) ?_
 refine(unlock_deferred Tryz.muLib ⟨gb,0,none⟩ .returning _ k0 z0).mono ?_;rintro e u' w6 ⟨rfl,rfl,rfl⟩;exact⟨.tuple #[],by simp[results,results31,go_sem],rfl,HP.out⟩
theorem wK(h:KD w B gb g m lo xs now R Q D)(id:Int):
  Calls prog 30 #[.pointer (some ⟨gb,0,none⟩),.int .i64 id] w λe w'=>e=.returned (.bool (yc D id))/\OpP w B gb g m lo xs now R Q g.cl (λD'=>D'=zW D id) w':=by
 obtain⟨db,tv,wb,ls,h2,h3,h1,-,-,h6,h7⟩:=h.lockd;have hM:=h.dw;have h8:Hid (Calls prog 65 #[.pointer (some ⟨db,0,none⟩),.int .i64 id] (w.setCell ⟨gb,0,none⟩ (.int .i32 1)) λe w2=>e=.returned (.bool (yc D id))/\w2.cell? ⟨gb,0,none⟩=some (.int .i32 1)/\w2.frozen? ⟨gb,0,none⟩=false/\Hid (OpP w B gb g m lo xs now R Q g.cl (λD'=>D'=zW D id) (w2.setCell ⟨gb,0,none⟩ (.int .i32 0)))):=by
  refine(oy h3 hM id).mono ?_;rintro e w2 ⟨rfl,hf,hz,ls',hD⟩;exact⟨rfl,h.after h2 hf hD (sD hM id) (λk e=>Or.inl e) rfl⟩
 have h0:=qa h.pg (j:=0) rfl;have f0:=qd h.pg 0;have c5:=qa h1 (j:=5) rfl;have c6:=qa h1 (j:=6) rfl;have h4:=h.lk;have h5:=qc h.pg;clear h h3 h1 h6 h7;obtain⟨lk,mb,tvg,ver,dk,cl⟩:=g;dsimp only at h4 h2;subst h4;subst h2;generalize OpP w B gb _ m lo xs now R Q _ (λD'=>D'=zW D id)=PP at *;generalize yc D id=cb at *;clear hM;go_enter_defers func30,ntmps30
 go_wp2_with(first|(go_at_call 51;refine(lock_free Tryz.muLib ⟨gb,0,none⟩ _ h0 f0).mono ?_;rintro e w1 ⟨rfl,h9⟩;subst w1)|(go_at_call 65;refine(Calls.mono h8.out) ?_;rintro e w3 ⟨rfl,k0,z0,HP⟩))
 refine leaves_cons (f:=52) (args:= #[.pointer (some ⟨gb,0,none⟩)]) (by simp) (by simp[go_sem]) ?_
 refine(unlock_deferred Tryz.muLib ⟨gb,0,none⟩ .returning _ k0 z0).mono ?_;rintro e u' w6 ⟨rfl,rfl,rfl⟩;exact⟨.bool cb,by simp[results,results30,go_sem],rfl,HP.out⟩
theorem ZF(h:KD w B gb g m lo xs now R Q D):
  Calls prog 32 #[.pointer (some ⟨gb,0,none⟩)] w λe w'=>e=.returned (.tuple #[])/\OpP w B gb g m lo xs now R Q true (λD'=>D'=xI D D.rs.length) w':=by
 obtain⟨db,tv,wb,ls,h5,h7,h1,-,-,h8,hb⟩:=h.lockd;have hM:=h.dw;have ha:Hid (Calls prog 67 #[.pointer (some ⟨db,0,none⟩)] (w.setCell ⟨gb,0,none⟩ (.int .i32 1)) λe w2=>e=.returned (.tuple #[])/\w2.cell? ⟨gb,6,none⟩=some (.bool g.cl)/\w2.frozen? ⟨gb,6,none⟩=false/\(w2.setCell ⟨gb,6,none⟩ (.bool true)).cell? ⟨gb,0,none⟩=some (.int .i32 1)/\(w2.setCell ⟨gb,6,none⟩ (.bool true)).frozen? ⟨gb,0,none⟩=false/\Hid (OpP w B gb g m lo xs now R Q true (λD'=>D'=xI D D.rs.length) ((w2.setCell ⟨gb,6,none⟩ (.bool true)).setCell ⟨gb,0,none⟩ (.int .i32 0)))):=by
  refine(lp h7 hM).mono ?_;rintro e w2 ⟨rfl,hf,hz,ls',hD⟩;have h3:zU w2 gb {g with lk:=1}:=(hf.block gb (qc h1) h.gQ).trans h1;have h2:zU (w2.setCell ⟨gb,6,none⟩ (.bool true)) gb {g with lk:=1,cl:=true}:=qL h3 6 _;have h4:Frm (λk=>k=gb) w2 (w2.setCell ⟨gb,6,none⟩ (.bool true)):=zu _ _ _ _;refine⟨rfl,qa h3 (j:=6) rfl,qd h3 6,qa h2 (j:=0) rfl,qd h2 0,?_⟩;exact h.done (((h8.mono λk _ e=>Or.inr e).trans hf λk _ e=>Or.inl e).trans h4 λk _ e=>Or.inr e) h2 h5 (hD.keep h4.size (λk hk=>h4.block k (hD.lt k hk) λe=>h.gQ (e▸hk)) (λk hk=>h4.block k (hD.ru.lt k hk) λe=>h.gR (e▸hk))) (sE hM _) (λk e=>Or.inl e) rfl
 have h0:=qa h.pg (j:=0) rfl;have f0:=qd h.pg 0;have c5:=qa h1 (j:=5) rfl;have h6:=h.lk;have h9:=qc h.pg;clear h h7 h1 h8 hb hM;obtain⟨lk,mb,tvg,ver,dk,cl⟩:=g;dsimp only at h6 h5;subst h6;subst h5;generalize OpP w B gb _ m lo xs now R Q _ (λD'=>D'=xI D D.rs.length)=PP at *;go_enter_defers func32,ntmps32
 go_wp2_with(first|(go_at_call 51;refine(lock_free Tryz.muLib ⟨gb,0,none⟩ _ h0 f0).mono ?_;rintro e w1 ⟨rfl,hc⟩;subst w1)|(go_at_call 67;refine(Calls.mono ha.out) ?_;rintro e w3 ⟨rfl,k6,z6,k0,z0,HP⟩))
 refine leaves_cons (f:=52) (args:= #[.pointer (some ⟨gb,0,none⟩)]) (by simp) (by simp[go_sem]) ?_
 refine(unlock_deferred Tryz.muLib ⟨gb,0,none⟩ .returning _ k0 z0).mono ?_;rintro e u' w6 ⟨rfl,rfl,rfl⟩;exact⟨.tuple #[],by simp[results,results32,go_sem],rfl,HP.out⟩
def aH:List Value:=[.int .i64 0,.int .i64 0,.bool false,.slice none 0 0]
def KA(Q:Exit->Act->World->Prop)(e:Exit)(a:Act)(w:World):Prop:=match e with
 | .panic _=>False
 |e=>Q e a w
variable{a:Act}
theorem K4{P:Program}{c:Code}{Q:Exit->Act->World->Prop}(h:Code.wp P c (KA Q) a w):Code.wp P c Q a w:=
 Code.wp_mono (λe a w hq=>by
  cases e with
  |panic c=>exact(hq:False).elim
  |normal=>exact hq
  |exit id=>exact hq
  |goto l=>exact hq
  |ret=>exact hq
  |outgrown=>exact hq) h
theorem wL{Q:Exit->Act->World->Prop}(h:Q .normal a w):KA Q .normal a w:=h
def uU(now:List BA)(s:BA)(bud til:Int):Tk:=⟨qj s,qK s,now,bud,til⟩
variable{s:BA}
theorem X2(h:zS xs s=0):zP s=true/\x8 xs (qj s)=true:=by
 have h0:zP s=true:=by
  cases e:zP s
  ·have:zS xs s=4:=if_pos e
   rw[h]at this;cases this
  ·rfl
 refine⟨h0,?_⟩;cases e:x8 xs (qj s)
 ·have:zS xs s=5:=by unfold zS;rw[h0,e];rfl
  rw[h]at this;cases this
 ·rfl
variable{bud til:Int}
theorem X3(HN:Hid xS)(h:KD w B gb g m lo xs now R Q D)(hs:s.size<=maxLen)(he:zS xs s=0)(hB:1<=bud)(hN:bud<=1000000000)(hM:0<=til)(hQ:til<=1000000000)(hK:D.rs.length<30){w5:World}(hb:Below w.heap.size (w.setCell ⟨gb,0,none⟩ (.int .i32 1)) w5)(h6:g.dk=.pointer (some ⟨db,0,none⟩)):
  Calls prog 61 #[.agg #[.string (qj s).k,.string (qj s).n,.string (qj s).r,.string (qK s).k,.string (qK s).n,.string (qK s).r]] w5 λe w6=>e=.returned (.agg #[.string (qj s).k,.string (qj s).n,.string (qj s).r,.string (qK s).k,.string (qK s).n,.string (qK s).r])/\w6.cell? ⟨gb,5,none⟩=some (.pointer (some ⟨db,0,none⟩))/\
   Hid (Calls prog 60 #[.pointer (some ⟨gb,0,none⟩),.agg #[.string (qj s).k,.string (qj s).n,.string (qj s).r,.string (qK s).k,.string (qK s).n,.string (qK s).r],.int .i64 bud,.int .i64 til] w6 λe w7=> ∃wkb,e=.returned (.agg #[.string (qj s).k,.string (qj s).n,.string (qj s).r,.string (qK s).k,.string (qK s).n,.string (qK s).r,.pointer (some ⟨wkb,0,none⟩),.int .i64 bud,.int .i64 til])/\w7.cell? ⟨gb,5,none⟩=some (.pointer (some ⟨db,0,none⟩))/\
    Hid (Calls prog 59 #[.pointer (some ⟨db,0,none⟩),.agg #[.string (qj s).k,.string (qj s).n,.string (qj s).r,.string (qK s).k,.string (qK s).n,.string (qK s).r,.pointer (some ⟨wkb,0,none⟩),.int .i64 bud,.int .i64 til]] w7 λe w8=>e=.returned (.int .i64 ((D.rs.length+1:Nat):Int))/\w8.cell? ⟨gb,0,none⟩=some (.int .i32 1)/\w8.frozen? ⟨gb,0,none⟩=false/\Hid (OpP w B gb g m lo xs now R Q g.cl (λD'=>D'=pO D (uU now s bud til)) (w8.setCell ⟨gb,0,none⟩ (.int .i32 0))))):=by
 obtain⟨hp,hV⟩:=X2 he;obtain⟨hy,hv⟩:=Xv hp;have hq:=cf hp xs now;have hI:=h.gate s hs;obtain⟨db',tv,wb,ls,hc,ht,h3,h4,h2,hX,hg⟩:=h.lockd;have hP:db'=db:=by
  have e:Value.pointer (some ⟨db',0,none⟩)=Value.pointer (some ⟨db,0,none⟩):=hc.symm.trans h6;simp only[Value.pointer.injEq,Option.some.injEq,Addr.mk.injEq,and_true]at e;exact e
 subst hP;have ho:Below (w.setCell ⟨gb,0,none⟩ (.int .i32 1)).heap.size (w.setCell ⟨gb,0,none⟩ (.int .i32 1)) w5:=by rw[hg];exact hb
 refine(nT (qj s) (qK s) hy hv w5).mono ?_;rintro e w6 ⟨hC,hf⟩;have h0:Below (w.setCell ⟨gb,0,none⟩ (.int .i32 1)).heap.size (w.setCell ⟨gb,0,none⟩ (.int .i32 1)) w6:=ho.trans (hf.mono ho.size);have h5:=yr h3 h0;have hD:w6.cell? ⟨gb,5,none⟩=some (.pointer (some ⟨db',0,none⟩)):=by rw[←h6];exact qa h5 (j:=5) rfl
 refine⟨hC,hD,?_⟩;have h9:zp w6 g.mb xs:=⟨m,lo,(h4.below h0).now.1,(h4.below h0).now.2⟩;have h8:zH w6 g.tv now:=xJ h2 λk hk=>h0.block k (zG h2 k hk).1;refine(Xw HN hI.pl (g:={g with lk:=1}) h5 h9 h8 hq.ok hq.th hq.rU (y:=qK s) bud til).mono ?_;rintro e w7 ⟨wkb,hR,ha,O,hn,hO⟩;have h7:Below (w.setCell ⟨gb,0,none⟩ (.int .i32 1)).heap.size (w.setCell ⟨gb,0,none⟩ (.int .i32 1)) w7:=h0.trans (ha.mono h0.size);have hd:=yr h3 h7;have hG:w7.cell? ⟨gb,5,none⟩=some (.pointer (some ⟨db',0,none⟩)):=by rw[←h6];exact qa hd (j:=5) rfl
 refine⟨wkb,hR,hG,?_⟩;have hE:=ht.below h7;have hU:w.heap.size<=w6.heap.size:=by rw[←hg];exact h0.size
 have hS:w.heap.size<=w7.heap.size:=by rw[←hg];exact h7.size
 have hA:=h.lt.1;have hL:=h.ru.lt;have hT:TkNew xs g.mb R Q O wkb [qj s] (uU now s bud til) w7:=⟨hn,by simp,hq.sz,hB,hN,hM,hQ,λk e q=>by have:=hO k e;have:=hA k q;omega,λk r e=>by have:=hO k e;have:=hL k r;omega⟩
 refine(Q0 hE hK hT).mono ?_;rintro e w8 ⟨hz,hu,Q',tv',ls',hF,hx⟩;have hJ:Frm Q (w.setCell ⟨gb,0,none⟩ (.int .i32 1)) w8:=(Frm.of_below h7).trans hu λ_ _ e=>e;refine⟨hz,h.after h6 hJ hF ?_ (λk e=>?_) rfl⟩
 ·intro i j r hi hr
  have hl:D.wk[i]?=some (some j):=hi;have hj:=ht.ok.wj i j hl;have hm:(D.rs++[xF D.clock (uC (uU now s bud til))])[j]?=some r:=hr;rw[Oz hj]at hm;exact h.dw i j r hl hm
 ·rcases hx k e with e|e|e
  ·exact Or.inl e
  ·have h1:=hO k e
   exact Or.inr ⟨by omega,Ug (hn.lt k e) hu.size⟩
  ·exact Or.inr ⟨by omega,e.2⟩
theorem KD.hasRu(h:KD w B gb g m lo xs now R Q D)(hs:s.size<=maxLen)(hb:Below w.heap.size (w.setCell ⟨gb,0,none⟩ (.int .i32 1)) w1):
  Calls prog 47 #[.pointer (some ⟨gb,0,none⟩),.agg #[.string (qj s).k,.string (qj s).n,.string (qj s).r]] w1 λe w'=>e=.returned (.bool (x8 xs (qj s)))/\Below w1.heap.size w1 w':=by
 obtain⟨db',tv,wb,ls,h8,h9,h4,h0,h6,ha,h7⟩:=h.lockd;have h5:Below (w.setCell ⟨gb,0,none⟩ (.int .i32 1)).heap.size (w.setCell ⟨gb,0,none⟩ (.int .i32 1)) w1:=by rw[h7];exact hb
 have hO:=lA s hs;obtain⟨m',h1,h2,h3⟩:=m7 (show zp w1 g.mb xs from⟨m,lo,(h0.below h5).now.1,(h0.below h5).now.2⟩) (qj s);have:=dE gb {g with lk:=1} m' h2 (qj s).k (qj s).n (qj s).r hO.1 hO.2.2 w1 (yr h4 h5) h1;rw[h3]at this;exact this
theorem ZG(HN:Hid xS)(h:KD w B gb g m lo xs now R Q D)(hc:g.cl=false)(hs:s.size<=maxLen)(he:zS xs s=0)(hi:1<=bud)(hm:bud<=1000000000)(hf:0<=til)(hn:til<=1000000000)(h8:y9 D=false):
  Calls prog 27 #[.pointer (some ⟨gb,0,none⟩),.string s,.int .i64 bud,.int .i64 til] w λe w'=>e=.returned (.tuple #[.int .i64 ((D.rs.length+1:Nat):Int),.int .i64 0])/\OpP w B gb g m lo xs now R Q g.cl (λD'=>D'=pO D (uU now s bud til)) w':=by
 obtain⟨db,tv,wb,ls,h9,hx,h5,hl,ha,hF,h6⟩:=h.lockd;have hj:D.rs.length<30:=by
  unfold y9 at h8;rw[Bool.or_eq_false_iff]at h8;have:=of_decide_eq_false h8.1;omega
 have hv:vk xs s=.agg #[.string (qj s).k,.string (qj s).n,.string (qj s).r,.string (qK s).k,.string (qK s).n,.string (qK s).r]:=if_pos he;have hz:Hid (∀w1,Calls prog 55 #[.int .i64 bud,.int .i64 1,.int .i64 1000000000] w1 λe w'=>e=.returned (.bool true)/\w'=w1):=by
  intro w1;have e:(decide (1<=bud) && decide (bud<=1000000000))=true:=by rw[Bool.and_eq_true];exact⟨Up hi,Up hm⟩
  have:=ye bud 1 1000000000 w1;rw[e]at this;exact this
 have hC:Hid (∀w1,Calls prog 55 #[.int .i64 til,.int .i64 0,.int .i64 1000000000] w1 λe w'=>e=.returned (.bool true)/\w'=w1):=by
  intro w1;have e:(decide (0<=til) && decide (til<=1000000000))=true:=by rw[Bool.and_eq_true];exact⟨Up hf,Up hn⟩
  have:=ye til 0 1000000000 w1;rw[e]at this;exact this
 have hy:Hid (Calls prog 41 #[.pointer (some ⟨gb,0,none⟩),.string s] (w.setCell ⟨gb,0,none⟩ (.int .i32 1)) λe w2=>e=.returned (.tuple #[.agg #[.string (qj s).k,.string (qj s).n,.string (qj s).r,.string (qK s).k,.string (qK s).n,.string (qK s).r],.int .i64 0])/\Below w.heap.size (w.setCell ⟨gb,0,none⟩ (.int .i32 1)) w2):=by
  have hr:=og (xs:=xs) (b:=gb) (w:=w.setCell ⟨gb,0,none⟩ (.int .i32 1)) s (λw1 hb=>h.hasRu hs (by rw[←h6];exact hb)) hs
  rw[hv,he]at hr;refine hr.mono ?_;rintro e w2 ⟨h1,h2⟩;exact⟨h1,by rw[←h6];exact h2⟩
 have hA:Hid (∀w3,Below w.heap.size (w.setCell ⟨gb,0,none⟩ (.int .i32 1)) w3->Calls prog 58 #[.pointer (some ⟨db,0,none⟩)] w3 λe w4=>e=.returned (.bool false)/\Below w3.heap.size w3 w4):=by
  intro w3 hb;have:=mV (hx.below (by rw[h6];exact hb))
  rw[h8]at this;exact this
 have hd:Hid (∀w3,Below w.heap.size (w.setCell ⟨gb,0,none⟩ (.int .i32 1)) w3->w3.cell? ⟨gb,5,none⟩=some (.pointer (some ⟨db,0,none⟩))):=by
  intro w3 hb;rw[←h9];exact qa (yr h5 (by rw[h6];exact hb)) (j:=5) rfl
 have ho:Hid _:=λw5 hb=>X3 HN h hs he hi hm hf hn hj (w5:=w5) hb h9;have h0:=qa h.pg (j:=0) rfl;have f0:=qd h.pg 0;have c6:=qa h5 (j:=6) rfl;have hq:=h.lk;have hE:=qc h.pg;clear h hx h5 hl ha hF h8 hv;obtain⟨lk,mb,tvg,ver,dk,cl⟩:=g;dsimp only at hq h9 hc;subst hq;subst h9;subst hc;generalize OpP w B gb _ m lo xs now R Q _ (λD'=>D'=pO D (uU now s bud til))=PP at *;generalize D.rs.length=N at *;generalize qj s=x at *;generalize qK s=y at *;clear he hs hi hm hf hn HN;go_enter_defers func27,ntmps27
 go_wp2_with(first
  |(go_at_call 51;refine(lock_free Tryz.muLib ⟨gb,0,none⟩ _ h0 f0).mono ?_;rintro e w1 ⟨rfl,hG⟩;subst w1)
  |(go_at_call 55;refine(hz.out _).mono ?_;rintro e w2 ⟨rfl,hD⟩;subst w2;clear hz)
  |(go_at_call 55;refine(hC.out _).mono ?_;rintro e w2 ⟨rfl,hD⟩;subst w2;clear hC)
  |(go_at_call 41;refine hy.out.mono ?_;rintro e w2 ⟨rfl,hk⟩;have h7:Below w.heap.size (w.setCell ⟨gb,0,none⟩ (.int .i32 1)) (w2.alloc (.cells #[.string x.k,.string x.n,.string x.r,.string y.k,.string y.n,.string y.r] 77)):=hk.alloc (by rw[←h6];exact hk.size) _;have g5:=hd.out _ h7;have hu:Hid _:=hA.out _ h7)
  |(go_at_call 58;refine(Calls.mono hu.out) ?_;rintro e w4 ⟨rfl,hg⟩))
 have h3:Below w.heap.size (w.setCell ⟨gb,0,none⟩ (.int .i32 1)) w4:=h7.trans (hg.mono (by rw[←h6];exact h7.size))
 have hI:=hd.out w4 h3;have h4:w4.heap[w2.heap.size]?=some (.cells (ya x y).toArray 77 (0,0)):=(hg.block _ (by show w2.heap.size<(w2.heap.push _).size;simp)).trans (qn w2 (ya x y) _)
 have l0:w4.cell? ⟨w2.heap.size,0,none⟩=some (.string x.k):=qa h4 (j:=0) rfl;have l1:w4.cell? ⟨w2.heap.size,1,none⟩=some (.string x.n):=qa h4 (j:=1) rfl;have l2:w4.cell? ⟨w2.heap.size,2,none⟩=some (.string x.r):=qa h4 (j:=2) rfl;have l3:w4.cell? ⟨w2.heap.size,3,none⟩=some (.string y.k):=qa h4 (j:=3) rfl;have l4:w4.cell? ⟨w2.heap.size,4,none⟩=some (.string y.n):=qa h4 (j:=4) rfl;have l5:w4.cell? ⟨w2.heap.size,5,none⟩=some (.string y.r):=qa h4 (j:=5) rfl;have hB:Hid (∀w5,Below w4.heap.size w4 w5->Below w.heap.size (w.setCell ⟨gb,0,none⟩ (.int .i32 1)) w5):=λw5 hb=>h3.trans (hb.mono (by rw[←h6];exact h3.size))
 clear hA hd hy hu h7 hk hg h3 h4 g5;refine K4 ?_
 go_region_with(first
  |(go_at_call 61;refine(Calls.mono (ho.out _ (hB.out _ bl))) ?_;rintro e w6 ⟨rfl,k6,hp⟩;clear ho hB)
  |(go_at_call 60;refine(Calls.mono hp.out) ?_;rintro e w7 ⟨wkb,rfl,k7,ht⟩;clear hp)
  |(go_at_call 59;refine(Calls.mono ht.out) ?_;rintro e w8 ⟨rfl,k0,z0,HP⟩;clear ht))
 all_goals refine wL ?_
 all_goals go_wp2
 all_goals
  refine leaves_cons (f:=52) (args:= #[.pointer (some ⟨gb,0,none⟩)]) (by simp) (by simp[go_sem]) ?_
  refine(unlock_deferred Tryz.muLib ⟨gb,0,none⟩ .returning _ k0 z0).mono ?_;rintro e u' w9 ⟨rfl,rfl,rfl⟩;exact⟨.tuple #[.int .i64 ((N+1:Nat):Int),.int .i64 0],by simp[results,results27,go_sem],rfl,HP.out⟩
open Go.RowKit Go.Shelf
def oO(bud til:Int):Bool:=decide (bud<1)||decide (1000000000<bud)||decide (til<0)||decide (1000000000<til)
theorem bY(h:oO bud til=true):bud<1\/(¬bud<1/\1000000000<bud)\/(¬bud<1/\ ¬1000000000<bud/\til<0)\/(¬bud<1/\ ¬1000000000<bud/\ ¬til<0/\1000000000<til):=by
 unfold oO at h;simp only[Bool.or_eq_true,decide_eq_true_eq]at h;omega
theorem rH(h:oO bud til=false): ¬bud<1/\ ¬1000000000<bud/\ ¬til<0/\ ¬1000000000<til:=by
 unfold oO at h;simp only[Bool.or_eq_false_iff,decide_eq_false_iff_not]at h;omega
variable{b:Nat}{r:Rg}
theorem mJ(h:xX w b r)(h0:r.closed=true)(s:BA)(bud til:Int):
  Calls prog 123 #[.pointer (some ⟨b,0,none⟩),.string s,.int .i64 bud,.int .i64 til] w λe w'=>e=.returned (.tuple #[.int .i64 0,.int .i64 7])/\w'=w:=by
 have g4:=qa h (j:=4) rfl;rw[h0]at g4;clear h h0;go_enter func123,ntmps123;go_wp2;exact bodyPost_ret (v:=.tuple #[.int .i64 0,.int .i64 7]) (by simp[results,results123,go_sem]) rfl ⟨rfl,rfl⟩
theorem nf(h:xX w b r)(h0:r.closed=false)(s:BA)(bud til:Int)(ha:oO bud til=true):
  Calls prog 123 #[.pointer (some ⟨b,0,none⟩),.string s,.int .i64 bud,.int .i64 til] w λe w'=>e=.returned (.tuple #[.int .i64 0,.int .i64 1])/\w'=w:=by
 have g4:=qa h (j:=4) rfl;rw[h0]at g4;have hw:=bY ha;clear h h0 ha;rcases hw with h1|⟨h1,h2⟩|⟨h1,h2,h3⟩|⟨h1,h2,h3,h4⟩
 all_goals
  go_enter func123,ntmps123;go_wp2;exact bodyPost_ret (v:=.tuple #[.int .i64 0,.int .i64 1]) (by simp[results,results123,go_sem]) rfl ⟨rfl,rfl⟩
theorem ng(h:xX w b r)(h5:r.closed=false)(s:BA)(bud til:Int)(ha:oO bud til=false){nd th:BA}{er:Int}(he:er≠0)
  (h0:Calls prog 168 #[.pointer (some ⟨b,0,none⟩),.string s] w λe w'=>e=.returned (.tuple #[.string nd,.string th,.bool c,.int .i64 er])/\Below w.heap.size w w'):
  Calls prog 123 #[.pointer (some ⟨b,0,none⟩),.string s,.int .i64 bud,.int .i64 til] w λe w'=>e=.returned (.tuple #[.int .i64 0,.int .i64 er])/\Below w.heap.size w w':=by
 have g4:=qa h (j:=4) rfl;rw[h5]at g4;obtain⟨h1,h2,h3,h4⟩:=rH ha;have h7:(er !=0)=true:=by simpa using he
 clear h h5 ha he;go_enter func123,ntmps123
 go_wp2_with(go_at_call 168;refine h0.mono ?_;rintro e w1 ⟨rfl,h6⟩)
 exact bodyPost_ret (v:=.tuple #[.int .i64 0,.int .i64 er]) (by simp[results,results123,go_sem]) rfl ⟨rfl,h6⟩
theorem X4(h:y9 D=true):D.qu<=(xA D.rs:Nat)\/(¬D.qu<=(xA D.rs:Nat)/\30<=D.rs.length):=by
 unfold y9 at h;rw[Bool.or_eq_true,decide_eq_true_iff,decide_eq_true_iff]at h;omega
theorem bZ(h:y9 D=false): ¬D.qu<=(xA D.rs:Nat)/\ ¬30<=D.rs.length:=by
 unfold y9 at h;rw[Bool.or_eq_false_iff,decide_eq_false_iff_not,decide_eq_false_iff_not]at h;omega
variable{gs:List Gq}{qs:List Ql}
theorem JI(h:QsAt B b r D gs qs wb w)(h2:zH w r.nowV now)(hS:Sim xs D gs)(hB:B<=w.heap.size)(hl:D.rs.length<30)(h0:Below w.heap.size w w2)(s:BA)(bud til:Int)(nd t:BA)(c:Bool)(m:Nat){is:Int}(h3:(til<=D.clock/\is=5)\/(¬til<=D.clock/\is=1)):
  ∃o k w5,(Builtin.append_ #[122,122] 122 #[r.reqV,.slice (some ⟨w2.heap.size+1,0,none⟩) 1 1]).run prog ((w2.alloc (.cells #[.string nd,.string t,.bool c,r.nowV,.int .i64 m,.int .i64 bud,.int .i64 til,.int .i64 is,.int .i64 0] 211)).alloc (.cells #[.pointer (some ⟨w2.heap.size,0,none⟩)] 212))=.ok (.slice o (D.rs.length+1) k) w5/\w5.cell? ⟨b,6,none⟩=some r.reqV/\w5.frozen? ⟨b,6,none⟩=false/\(w5.setCell ⟨b,6,none⟩ (.slice o (D.rs.length+1) k)).cell? ⟨b,6,none⟩=some (.slice o (D.rs.length+1) k)/\Hid (Q1 B b r D gs qs ⟨uU now s bud til,nd,t,c,m⟩ wb w (w5.setCell ⟨b,6,none⟩ (.slice o (D.rs.length+1) k))):=by
 have q1:Below w2.heap.size w2 (w2.alloc (.cells #[.string nd,.string t,.bool c,r.nowV,.int .i64 m,.int .i64 bud,.int .i64 til,.int .i64 is,.int .i64 0] 211)):=(Ou _ _).alloc (Uc _) _;have q2:(w2.alloc (.cells #[.string nd,.string t,.bool c,r.nowV,.int .i64 m,.int .i64 bud,.int .i64 til,.int .i64 is,.int .i64 0] 211)).heap.size=w2.heap.size+1:=by show(w2.heap.push _).size=_;simp
 have q3:(w2.alloc (.cells #[.string nd,.string t,.bool c,r.nowV,.int .i64 m,.int .i64 bud,.int .i64 til,.int .i64 is,.int .i64 0] 211)).heap[w2.heap.size]?=some (.cells (dqL (xF D.clock (uC (uU now s bud til))) ⟨uU now s bud til,nd,t,c,m⟩ r.nowV).toArray 211 (0,0)):=by
  have e:dqL (xF D.clock (uC (uU now s bud til))) ⟨uU now s bud til,nd,t,c,m⟩ r.nowV=[.string nd,.string t,.bool c,r.nowV,.int .i64 m,.int .i64 bud,.int .i64 til,.int .i64 is,.int .i64 0]:=by
   rcases h3 with⟨hc,rfl⟩|⟨hc,rfl⟩
   ·rw[kj (t:=uU now s bud til) rfl hc];rfl
   ·rw[km (t:=uU now s bud til) rfl hc];rfl
  rw[e];exact qn w2 _ _
 have h1:Below w.heap.size w (w2.alloc (.cells #[.string nd,.string t,.bool c,r.nowV,.int .i64 m,.int .i64 bud,.int .i64 til,.int .i64 is,.int .i64 0] 211)):=h0.trans (q1.mono h0.size);have key:=KI (g:=⟨uU now s bud til,nd,t,c,m⟩) (q:=⟨w2.heap.size,r.nowV⟩) h hS.len hl hB h1 h0.size rfl q3 (xJ h2 λk hk=>h1.block k (zG h2 k hk).1);rw[q2]at key;exact key
theorem ph(hC:Hid jC)(ok:DocOk xs now)(h:QsAt B b r D gs qs wb w)(hd:DocAt xs now b r r.nowV w)(ht:zH w r.nowV now)(hS:Sim xs D gs)(hB:B<=w.heap.size)(hE:r.closed=false)(s:BA)(bud til:Int)(ha:oO bud til=false){t:BA}{k n z:List UInt8}(h2:vd s=c)(nm:NmN (qj s) k n (some z))(h4:c=true->t=thT (qK s))
  (hi:Calls prog 168 #[.pointer (some ⟨b,0,none⟩),.string s] w λe w'=>e=.returned (.tuple #[.string (txT (qj s)),.string t,.bool c,.int .i64 0])/\Below w.heap.size w w'):
  Calls prog 123 #[.pointer (some ⟨b,0,none⟩),.string s,.int .i64 bud,.int .i64 til] w λe w'=>(y9 D=true/\e=.returned (.tuple #[.int .i64 0,.int .i64 6])/\Below w.heap.size w w')\/(y9 D=false/\e=.returned (.tuple #[.int .i64 ((D.rs.length+1:Nat):Int),.int .i64 0])/\ ∃m,SimR xs (-1) (uC (uU now s bud til)) ⟨uU now s bud til,txT (qj s),t,c,m⟩/\Q1 B b r D gs qs ⟨uU now s bud til,txT (qj s),t,c,m⟩ wb w w'):=by
 obtain⟨a1,a2,a3,a4⟩:=rH ha;obtain⟨rx,rc,he⟩:=qz h.row;rw[h.len]at he;have hQ:=h.n30;have g4:=qa h.rg (j:=4) rfl;rw[hE]at g4;have HG:Hid (∀w1,Below w.heap.size w w1->w1.cell? ⟨b,1,none⟩=some r.nowV/\w1.cell? ⟨b,3,none⟩=some (.int .i64 D.clock)/\w1.cell? ⟨b,5,none⟩=some (.int .i64 D.qu)/\w1.cell? ⟨b,6,none⟩=some (.slice rx D.rs.length rc)):=by
  intro w1 hb;have h1:=ut h.rg hb;refine⟨qa h1 (j:=1) rfl,?_,?_,?_⟩
  ·rw[←h.clock];exact qa h1 (j:=3) rfl
  ·rw[←h.queue];exact qa h1 (j:=5) rfl
  ·rw[←he];exact qa h1 (j:=6) rfl
 have ho:Hid (∀w1,Below w.heap.size w w1-> ∀k,k<D.rs.length-> ∃(rb qb:Nat) (is:Int),rx=some ⟨rb,0,none⟩/\w1.cell? ⟨rb,k,none⟩=some (.pointer (some ⟨qb,0,none⟩))/\w1.cell? ⟨qb,7,none⟩=some (.int .i64 is)/\(((is==1)=true/\xA (D.rs.take (k+1))=xA (D.rs.take k)+1)\/((is==1)=false/\xA (D.rs.take (k+1))=xA (D.rs.take k)))):=by
  intro w1 hb k hk;have hx:D.rs[k]?=some D.rs[k]:=OC hk;generalize D.rs[k]=x at hx;obtain⟨q,g,rb,c,hq,hg,sr,hT,hv,hc⟩:=(h.below hb).get hS hx;rw[h.len,he]at hv;injection hv with hJ _ _;have hn:=ld hx;refine⟨rb,q.b,x.is,hJ,hc,qa hT (j:=7) rfl,?_⟩;rw[vJ];cases e:vF x with
  |true=>rw[e,if_pos rfl]at hn;exact Or.inl ⟨e,hn⟩
  |false=>rw[e,if_neg (by decide)]at hn;exact Or.inr ⟨e,hn⟩
 have hs:Hid (∀k,xA (D.rs.take k)<=30):=λk=>Ue (bu _) (by rw[OQ];omega)
 have h3:Hid (xA (D.rs.take D.rs.length)=xA D.rs):=by show _=_;rw[List.take_length]
 have h5:Hid (∀is:Int,((til<=D.clock/\is=5)\/(¬til<=D.clock/\is=1))->y9 D=false-> ∀w1,Below w.heap.size w w1->Calls prog 171 #[.pointer (some ⟨b,0,none⟩),r.nowV,.string (txT (qj s))] w1 λe w2=> ∃o,∃m:Nat,∃k2,e=.returned (.slice o m k2)/\m<=300000/\Hid (Below w.heap.size w w2)/\ ∃o5 k5 w5,(Builtin.append_ #[122,122] 122 #[.slice rx D.rs.length rc,.slice (some ⟨w2.heap.size+1,0,none⟩) 1 1]).run prog ((w2.alloc (.cells #[.string (txT (qj s)),.string t,.bool c,r.nowV,.int .i64 m,.int .i64 bud,.int .i64 til,.int .i64 is,.int .i64 0] 211)).alloc (.cells #[.pointer (some ⟨w2.heap.size,0,none⟩)] 212))=.ok (.slice o5 (D.rs.length+1) k5) w5/\w5.cell? ⟨b,6,none⟩=some (.slice rx D.rs.length rc)/\w5.frozen? ⟨b,6,none⟩=false/\(w5.setCell ⟨b,6,none⟩ (.slice o5 (D.rs.length+1) k5)).cell? ⟨b,6,none⟩=some (.slice o5 (D.rs.length+1) k5)/\Hid (∃m,SimR xs (-1) (uC (uU now s bud til)) ⟨uU now s bud til,txT (qj s),t,c,m⟩/\Q1 B b r D gs qs ⟨uU now s bud til,txT (qj s),t,c,m⟩ wb w (w5.setCell ⟨b,6,none⟩ (.slice o5 (D.rs.length+1) k5)))):=by
  intro is hK h0 w1 h7;refine(hC.out ok (hd.below h7) nm).mono ?_;rintro e w2 ⟨o,k2,met,rfl,q1,-,q3,q4⟩;have hj:Below w.heap.size w w2:=h7.trans (q4.mono h7.size);have hl:D.rs.length<30:=by have:=(bZ h0).2;omega
  obtain⟨o5,k5,w5,r1,r2,r3,r4,r5⟩:=JI h ht hS hB hl hj s bud til (txT (qj s)) t c met.length hK;rw[he]at r1 r2;refine⟨o,met.length,k2,rfl,q3,hj,o5,k5,w5,r1,r2,r3,r4,met.length,?_,r5⟩;have hy:0<met.length:=List.length_pos_of_mem ((q1.gone.all _).2 Rch.here);refine⟨⟨met,q1.nd,q1.gone.all,rfl⟩,⟨k,n,z,nm⟩,rfl,h2.symm,h4,by show met.length<=32000000;omega,by show 1<=bud;omega,by show bud<=1000000000;omega,by show 0<=til;omega,by show til<=1000000000;omega,λ_=>⟨rfl,hy,by show((0:Nat):Int)<bud;omega,by show(-1:Int)<til;omega⟩,λe=>absurd (Or.inl rfl) e,λe=>?_,λ_=>⟨rfl,rfl⟩,Um _,ok⟩
  have e:(1:Int)=3:=e;cases e
 have hp:(y9 D=true/\(D.qu<=(xA D.rs:Nat)\/(¬D.qu<=(xA D.rs:Nat)/\30<=D.rs.length)))\/(y9 D=false/\ ¬D.qu<=(xA D.rs:Nat)/\ ¬30<=D.rs.length):=by
  cases e:y9 D with
  |true=>exact Or.inl ⟨rfl,X4 e⟩
  |false=>exact Or.inr ⟨rfl,bZ e⟩
 obtain⟨nx,nn,nc,hu⟩: ∃x n c,r.nowV=.slice x n c:=by
  rcases ht with⟨e,-⟩|⟨b,cap,cur,e,-⟩
  ·exact⟨_,_,_,e⟩
  ·exact⟨_,_,_,e⟩
 rw[hu]at HG h5;have hf:Hid (Calls prog 168 #[.pointer (some ⟨b,0,none⟩),.string s] w λe w'=>e=.returned (.tuple #[.string (txT (qj s)),.string t,.bool c,.int .i64 0])/\Below w.heap.size w w'):=hi;have hr:=hu;clear hi h hd ht hS hB hE ha h2 nm h4 hu hr hC ok he;obtain⟨N,hN⟩: ∃N,D.rs.length=N:=⟨_,rfl⟩;rw[hN]at HG ho h3 h5 hp hQ;rw[hN];clear hN;generalize txT (qj s)=nd at *;go_enter func123,ntmps123
 go_wp2_with(go_at_call 168;refine hf.out.mono ?_;rintro e w1 ⟨rfl,h7⟩;obtain⟨g1,g3,g5,g6⟩:=HG.out w1 h7;have h9:Hid (Below w.heap.size w w1):=h7;clear h7 hf g4)
 go_loopw [14,15] (λcn i wr=> ∃k:Nat,k<=N/\cn=.int .i64 (xA (D.rs.take k):Nat)/\i=.int .i64 k/\wr=w1) (λ_ i _=>N-(intOf i).toNat)
 case atStart=>exact⟨0,Um _,rfl,rfl,rfl⟩
 case round=>
  obtain⟨k,hk,rfl,rfl,rfl⟩:=hrel;have hO:=hs.out k;by_cases hG:k<N
  ·obtain⟨rb,qb,is,hM,c1,c7,hR⟩:=ho.out wr h9.out k hG
   subst hM;generalize xA (D.rs.take k)=cn at *;rcases hR with⟨e1,e2⟩|⟨e1,e2⟩
   all_goals
    have HX:Hid (xA (D.rs.take (k+1))=_):=e2;clear ho h5 h3 hs HG e2 hp h9
   ·go_wp2
    go_roundw
    case rel=>exact⟨k+1,by omega,by rw[HX.out];go_num,by go_num,trivial⟩
    case measure=>simp[intOf];omega
   ·go_wp2
    go_roundw
    case rel=>exact⟨k+1,by omega,by rw[HX.out],by go_num,trivial⟩
    case measure=>simp[intOf];omega
  ·have hL:k=N:=by omega
   have hD:xA (D.rs.take k)=xA D.rs:=by rw[hL];exact h3.out
   rw[hD]at hO ⊢;clear ho hs h3 hD;generalize xA D.rs=cn at *;rcases hp with⟨h0,hF|⟨hF,hP⟩⟩|⟨h0,hF,hP⟩
   ·have h8:Hid (y9 D=true):=h0
    clear h5 HG h0;go_wp2;exact bodyPost_ret (v:=.tuple #[.int .i64 0,.int .i64 6]) (by simp[results,results123,go_sem]) rfl (Or.inl ⟨h8.out,rfl,h9.out⟩)
   ·have h8:Hid (y9 D=true):=h0
    clear h5 HG h0;go_wp2;exact bodyPost_ret (v:=.tuple #[.int .i64 0,.int .i64 6]) (by simp[results,results123,go_sem]) rfl (Or.inl ⟨h8.out,rfl,h9.out⟩)
   ·have h8:Hid (y9 D=false):=h0
    by_cases hc:til<=D.clock
    ·have hz:Hid _:=h5.out 5 (Or.inl ⟨hc,rfl⟩) h0 wr h9.out
     clear h5 h0
     go_wp2_with(first|(go_at_call 171;refine(Calls.mono hz.out) ?_;rintro e w2 ⟨o,m,k2,rfl,hm,hA,o5,k5,w5,h6,f6,z6,f6',HP⟩;obtain⟨d1,d3,d5,d6⟩:=HG.out w2 hA.out;have hI:=qp d3)|(at_builtin;refine qo rfl (.tmp 116) (.tmp 118) 122 rfl _ _ _ rfl rfl h6 ?_))
     exact bodyPost_ret (v:=.tuple #[.int .i64 ((N+1:Nat):Int),.int .i64 0]) (by simp[results,results123,go_sem]) rfl (Or.inr ⟨h8.out,rfl,HP.out⟩)
    ·have hz:Hid _:=h5.out 1 (Or.inr ⟨by omega,rfl⟩) h0 wr h9.out
     clear h5 h0
     go_wp2_with(first|(go_at_call 171;refine(Calls.mono hz.out) ?_;rintro e w2 ⟨o,m,k2,rfl,hm,hA,o5,k5,w5,h6,f6,z6,f6',HP⟩;obtain⟨d1,d3,d5,d6⟩:=HG.out w2 hA.out;have hI:=qp d3)|(at_builtin;refine qo rfl (.tmp 116) (.tmp 118) 122 rfl _ _ _ rfl rfl h6 ?_))
     exact bodyPost_ret (v:=.tuple #[.int .i64 ((N+1:Nat):Int),.int .i64 0]) (by simp[results,results123,go_sem]) rfl (Or.inr ⟨h8.out,rfl,HP.out⟩)
open Go.RowKit Go.Shelf Go.MuLone
theorem rI(h:KD w B gb g m lo xs now R Q D)(hc:g.cl=true)(s:BA)(bud til:Int):
  Calls prog 27 #[.pointer (some ⟨gb,0,none⟩),.string s,.int .i64 bud,.int .i64 til] w λe w'=>e=.returned (.tuple #[.int .i64 0,.int .i64 7])/\OpP w B gb g m lo xs now R Q g.cl (λD'=>D'=D) w':=by
 obtain⟨db,tv,wb,ls,h5,h6,h2,-,-,h8,h9⟩:=h.lockd;obtain⟨h1,h3⟩:=h.same (Ou _ _) (Rel:=λD'=>D'=D) rfl;have k0:=qa h3 (j:=0) rfl;have z0:=qd h3 0;have HP:Hid (OpP w B gb g m lo xs now R Q g.cl (λD'=>D'=D) ((w.setCell ⟨gb,0,none⟩ (.int .i32 1)).setCell ⟨gb,0,none⟩ (.int .i32 0))):=h1;clear h1 h3;have h0:=qa h.pg (j:=0) rfl;have f0:=qd h.pg 0;have c5:=qa h2 (j:=5) rfl;have c6:=qa h2 (j:=6) rfl;have h4:=h.lk;have h7:=qc h.pg;clear h h6 h2 h8 h9;obtain⟨lk,mb,tvg,ver,dk,cl⟩:=g;dsimp only at h4 h5;subst h4;subst h5;dsimp only at hc;subst hc;generalize OpP w B gb _ m lo xs now R Q _ (λD'=>D'=D)=PP at *;go_enter_defers func27,ntmps27
 go_wp2_with(first|(go_at_call 51;refine(lock_free Tryz.muLib ⟨gb,0,none⟩ _ h0 f0).mono ?_;rintro e w1 ⟨rfl,ha⟩;subst w1))
 refine leaves_cons (f:=52) (args:= #[.pointer (some ⟨gb,0,none⟩)]) (by simp) (by simp[go_sem]) ?_
 refine(unlock_deferred Tryz.muLib ⟨gb,0,none⟩ .returning _ k0 z0).mono ?_;rintro e u' w6 ⟨rfl,rfl,rfl⟩;exact⟨.tuple #[.int .i64 0,.int .i64 7],by simp[results,results27,go_sem],rfl,HP.out⟩
theorem X5(h:KD w B gb g m lo xs now R Q D)(hc:g.cl=false){i:Int}(hi:i<0\/(D.wk.length:Int)<=i):
  Calls prog 28 #[.pointer (some ⟨gb,0,none⟩),.int .i64 i] w λe w'=>e=.returned (.int .i64 1)/\OpP w B gb g m lo xs now R Q g.cl (λD'=>D'=D) w':=by
 obtain⟨db,tv,wb,ls,h5,h4,h2,-,-,h9,ha⟩:=h.lockd;obtain⟨h1,h3⟩:=h.same (Ou _ _) (Rel:=λD'=>D'=D) rfl;have k0:=qa h3 (j:=0) rfl;have z0:=qd h3 0;have HP:Hid (OpP w B gb g m lo xs now R Q g.cl (λD'=>D'=D) ((w.setCell ⟨gb,0,none⟩ (.int .i32 1)).setCell ⟨gb,0,none⟩ (.int .i32 0))):=h1;clear h1 h3;have h7:Hid (Calls prog 62 #[.pointer (some ⟨db,0,none⟩),.int .i64 i] (w.setCell ⟨gb,0,none⟩ (.int .i32 1)) λe w'=>e=.returned (.bool false)/\w'=(w.setCell ⟨gb,0,none⟩ (.int .i32 1))):=by
  refine(lm h4 i).mono ?_;rintro e w' ⟨rfl,hw⟩;have e2:(decide ((0:Int)<=i) && decide (i<(D.wk.length:Nat)))=false:=by
   rw[Bool.and_eq_false_iff];rcases hi with e|e
   ·exact Or.inl (Uo (by omega))
   ·exact Or.inr (Uo (by omega))
  exact⟨by rw[e2],hw⟩
 have h0:=qa h.pg (j:=0) rfl;have f0:=qd h.pg 0;have c5:=qa h2 (j:=5) rfl;have c6:=qa h2 (j:=6) rfl;have h6:=h.lk;have h8:=qc h.pg;clear h h4 h2 h9 ha hi;obtain⟨lk,mb,tvg,ver,dk,cl⟩:=g;dsimp only at h6 h5;subst h6;subst h5;dsimp only at hc;subst hc;generalize OpP w B gb _ m lo xs now R Q _ (λD'=>D'=D)=PP at *;go_enter_defers func28,ntmps28
 go_wp2_with(first|(go_at_call 51;refine(lock_free Tryz.muLib ⟨gb,0,none⟩ _ h0 f0).mono ?_;rintro e w1 ⟨rfl,hb⟩;subst w1)|(go_at_call 62;refine h7.out.mono ?_;rintro e w2 ⟨rfl,hd⟩;subst w2))
 refine leaves_cons (f:=52) (args:= #[.pointer (some ⟨gb,0,none⟩)]) (by simp) (by simp[go_sem]) ?_
 refine(unlock_deferred Tryz.muLib ⟨gb,0,none⟩ .returning _ k0 z0).mono ?_;rintro e u' w6 ⟨rfl,rfl,rfl⟩;exact⟨.int .i64 1,by simp[results,results28,go_sem],rfl,HP.out⟩
theorem b7(h:KD w B gb g m lo xs now R Q D)(hc:g.cl=true):
  Calls prog 31 #[.pointer (some ⟨gb,0,none⟩)] w λe w'=>e=.returned (.tuple #[])/\OpP w B gb g m lo xs now R Q g.cl (λD'=>D'=D) w':=by
 obtain⟨db,tv,wb,ls,h5,h6,h2,-,-,h8,h9⟩:=h.lockd;obtain⟨h1,h3⟩:=h.same (Ou _ _) (Rel:=λD'=>D'=D) rfl;have k0:=qa h3 (j:=0) rfl;have z0:=qd h3 0;have HP:Hid (OpP w B gb g m lo xs now R Q g.cl (λD'=>D'=D) ((w.setCell ⟨gb,0,none⟩ (.int .i32 1)).setCell ⟨gb,0,none⟩ (.int .i32 0))):=h1;clear h1 h3;have h0:=qa h.pg (j:=0) rfl;have f0:=qd h.pg 0;have c5:=qa h2 (j:=5) rfl;have c6:=qa h2 (j:=6) rfl;have h4:=h.lk;have h7:=qc h.pg;clear h h6 h2 h8 h9;obtain⟨lk,mb,tvg,ver,dk,cl⟩:=g;dsimp only at h4 h5;subst h4;subst h5;dsimp only at hc;subst hc;generalize OpP w B gb _ m lo xs now R Q _ (λD'=>D'=D)=PP at *;go_enter_defers func31,ntmps31
 go_wp2_with(go_at_call 51;refine(lock_free Tryz.muLib ⟨gb,0,none⟩ _ h0 f0).mono ?_;rintro e w1 ⟨rfl,ha⟩;subst w1)
 refine leaves_cons (f:=52) (args:= #[.pointer (some ⟨gb,0,none⟩)]) (by simp) (by simp[go_sem]) ?_
 refine(unlock_deferred Tryz.muLib ⟨gb,0,none⟩ .returning _ k0 z0).mono ?_;rintro e u' w6 ⟨rfl,rfl,rfl⟩;exact⟨.tuple #[],by simp[results,results31,go_sem],rfl,HP.out⟩
theorem wM(h:KD w B gb g m lo xs now R Q D)(hc:g.cl=false)(s:BA)(ha: ¬(1<=bud/\bud<=1000000000)\/((1<=bud/\bud<=1000000000)/\ ¬(0<=til/\til<=1000000000))):
  Calls prog 27 #[.pointer (some ⟨gb,0,none⟩),.string s,.int .i64 bud,.int .i64 til] w λe w'=>e=.returned (.tuple #[.int .i64 0,.int .i64 1])/\OpP w B gb g m lo xs now R Q g.cl (λD'=>D'=D) w':=by
 obtain⟨db,tv,wb,ls,h7,hb,h2,-,-,he,hf⟩:=h.lockd;obtain⟨h1,h4⟩:=h.same (Ou _ _) (Rel:=λD'=>D'=D) rfl;have k0:=qa h4 (j:=0) rfl;have z0:=qd h4 0;have HP:Hid (OpP w B gb g m lo xs now R Q g.cl (λD'=>D'=D) ((w.setCell ⟨gb,0,none⟩ (.int .i32 1)).setCell ⟨gb,0,none⟩ (.int .i32 0))):=h1;clear h1 h4;have h3:Hid (∀w1,Calls prog 55 #[.int .i64 bud,.int .i64 1,.int .i64 1000000000] w1 λe w'=>e=.returned (.bool (decide (1<=bud) && decide (bud<=1000000000)))/\w'=w1):=λw1=>ye bud 1 1000000000 w1;have h5:Hid (∀w1,Calls prog 55 #[.int .i64 til,.int .i64 0,.int .i64 1000000000] w1 λe w'=>e=.returned (.bool (decide (0<=til) && decide (til<=1000000000)))/\w'=w1):=λw1=>ye til 0 1000000000 w1;have hg:(decide (1<=bud) && decide (bud<=1000000000))=false\/((decide (1<=bud) && decide (bud<=1000000000))=true/\(decide (0<=til) && decide (til<=1000000000))=false):=by
  have key: ∀a b c d:Int,(decide (a<=b) && decide (c<=d))=decide (a<=b/\c<=d):=λa b c d=>(Bool.decide_and _ _).symm;rw[key,key];rcases ha with e|⟨e,e'⟩
  ·exact Or.inl (Uo e)
  ·exact Or.inr ⟨Up e,Uo e'⟩
 generalize (decide (1<=bud) && decide (bud<=1000000000))=o1 at *;generalize (decide (0<=til) && decide (til<=1000000000))=o2 at *;have h0:=qa h.pg (j:=0) rfl;have f0:=qd h.pg 0;have c5:=qa h2 (j:=5) rfl;have c6:=qa h2 (j:=6) rfl;have h6:=h.lk;have hd:=qc h.pg;clear h hb h2 he hf ha;obtain⟨lk,mb,tvg,ver,dk,cl⟩:=g;dsimp only at h6 h7;subst h6;subst h7;dsimp only at hc;subst hc;generalize OpP w B gb _ m lo xs now R Q _ (λD'=>D'=D)=PP at *;rcases hg with e1|⟨e1,e2⟩
 ·subst e1
  go_enter_defers func27,ntmps27
  go_wp2_with(first|(go_at_call 51;refine(lock_free Tryz.muLib ⟨gb,0,none⟩ _ h0 f0).mono ?_;rintro e w1 ⟨rfl,h9⟩;subst w1)|(go_at_call 55;refine(h3.out _).mono ?_;rintro e w2 ⟨rfl,h8⟩;subst w2;clear h3))
  refine leaves_cons (f:=52) (args:= #[.pointer (some ⟨gb,0,none⟩)]) (by simp) (by simp[go_sem]) ?_
  refine(unlock_deferred Tryz.muLib ⟨gb,0,none⟩ .returning _ k0 z0).mono ?_;rintro e u' w6 ⟨rfl,rfl,rfl⟩;exact⟨.tuple #[.int .i64 0,.int .i64 1],by simp[results,results27,go_sem],rfl,HP.out⟩
 ·subst e1 e2
  go_enter_defers func27,ntmps27
  go_wp2_with(first|(go_at_call 51;refine(lock_free Tryz.muLib ⟨gb,0,none⟩ _ h0 f0).mono ?_;rintro e w1 ⟨rfl,h9⟩;subst w1)|(go_at_call 55;refine(h3.out _).mono ?_;rintro e w2 ⟨rfl,h8⟩;subst w2;clear h3)|(go_at_call 55;refine(h5.out _).mono ?_;rintro e w2 ⟨rfl,h8⟩;subst w2;clear h5))
  refine leaves_cons (f:=52) (args:= #[.pointer (some ⟨gb,0,none⟩)]) (by simp) (by simp[go_sem]) ?_
  refine(unlock_deferred Tryz.muLib ⟨gb,0,none⟩ .returning _ k0 z0).mono ?_;rintro e u' w6 ⟨rfl,rfl,rfl⟩;exact⟨.tuple #[.int .i64 0,.int .i64 1],by simp[results,results27,go_sem],rfl,HP.out⟩
theorem wN(h:KD w B gb g m lo xs now R Q D)(hc:g.cl=false)(hs:s.size<=maxLen)(he:zS xs s≠0)(h7:1<=bud)(hi:bud<=1000000000)(hg:0<=til)(hj:til<=1000000000):
  Calls prog 27 #[.pointer (some ⟨gb,0,none⟩),.string s,.int .i64 bud,.int .i64 til] w λe w'=>e=.returned (.tuple #[.int .i64 0,.int .i64 (zS xs s)])/\OpP w B gb g m lo xs now R Q g.cl (λD'=>D'=D) w':=by
 obtain⟨db,tv,wb,ls,h9,hm,h3,-,-,hn,h6⟩:=h.lockd;have ha:Hid (∀w1,Calls prog 55 #[.int .i64 bud,.int .i64 1,.int .i64 1000000000] w1 λe w'=>e=.returned (.bool true)/\w'=w1):=by
  intro w1;have e:(decide (1<=bud) && decide (bud<=1000000000))=true:=by rw[Bool.and_eq_true];exact⟨Up h7,Up hi⟩
  have:=ye bud 1 1000000000 w1;rw[e]at this;exact this
 have hf:Hid (∀w1,Calls prog 55 #[.int .i64 til,.int .i64 0,.int .i64 1000000000] w1 λe w'=>e=.returned (.bool true)/\w'=w1):=by
  intro w1;have e:(decide (0<=til) && decide (til<=1000000000))=true:=by rw[Bool.and_eq_true];exact⟨Up hg,Up hj⟩
  have:=ye til 0 1000000000 w1;rw[e]at this;exact this
 have hv:vk xs s=jK:=if_neg he;have hq:(zS xs s !=0)=true:=by simpa using he
 have ho:Hid (Calls prog 41 #[.pointer (some ⟨gb,0,none⟩),.string s] (w.setCell ⟨gb,0,none⟩ (.int .i32 1)) λe w2=>e=.returned (.tuple #[.agg #[.string qk,.string qk,.string qk,.string qk,.string qk,.string qk],.int .i64 (zS xs s)])/\ ∀ob,(w2.alloc ob).cell? ⟨gb,0,none⟩=some (.int .i32 1)/\(w2.alloc ob).frozen? ⟨gb,0,none⟩=false/\Hid (OpP w B gb g m lo xs now R Q g.cl (λD'=>D'=D) ((w2.alloc ob).setCell ⟨gb,0,none⟩ (.int .i32 0)))):=by
  have hr:=og (xs:=xs) (b:=gb) (w:=w.setCell ⟨gb,0,none⟩ (.int .i32 1)) s (λw1 hb=>h.hasRu hs (by rw[←h6];exact hb)) hs
  rw[hv]at hr;refine hr.mono ?_;rintro e w2 ⟨h1,h2⟩;refine⟨h1,λob=>?_⟩;have hb:Below w.heap.size (w.setCell ⟨gb,0,none⟩ (.int .i32 1)) (w2.alloc ob):=by
   rw[←h6];exact h2.trans ((Ou _ _).alloc h2.size _)
  obtain⟨h4,hd⟩:=h.same hb (Rel:=λD'=>D'=D) rfl;exact⟨qa hd (j:=0) rfl,qd hd 0,h4⟩
 generalize zS xs s=er at *;have h0:=qa h.pg (j:=0) rfl;have f0:=qd h.pg 0;have c5:=qa h3 (j:=5) rfl;have c6:=qa h3 (j:=6) rfl;have h8:=h.lk;have hk:=qc h.pg;clear h hm h3 hn h6 hv he hs h7 hi hg hj;obtain⟨lk,mb,tvg,ver,dk,cl⟩:=g;dsimp only at h8 h9;subst h8;subst h9;dsimp only at hc;subst hc;generalize OpP w B gb _ m lo xs now R Q _ (λD'=>D'=D)=PP at *;go_enter_defers func27,ntmps27
 go_wp2_with(first
  |(go_at_call 51;refine(lock_free Tryz.muLib ⟨gb,0,none⟩ _ h0 f0).mono ?_;rintro e w1 ⟨rfl,hp⟩;subst w1)
  |(go_at_call 55;refine(ha.out _).mono ?_;rintro e w2 ⟨rfl,hl⟩;subst w2;clear ha)
  |(go_at_call 55;refine(hf.out _).mono ?_;rintro e w2 ⟨rfl,hl⟩;subst w2;clear hf)
  |(go_at_call 41;refine ho.out.mono ?_;rintro e w2 ⟨rfl,h5⟩))
 obtain⟨k0,z0,HP⟩:=h5 _;refine leaves_cons (f:=52) (args:= #[.pointer (some ⟨gb,0,none⟩)]) (by simp) (by simp[go_sem]) ?_
 refine(unlock_deferred Tryz.muLib ⟨gb,0,none⟩ .returning _ k0 z0).mono ?_;rintro e u' w6 ⟨rfl,rfl,rfl⟩;exact⟨.tuple #[.int .i64 0,.int .i64 er],by simp[results,results27,go_sem],rfl,HP.out⟩
theorem b8(h:KD w B gb g m lo xs now R Q D)(hc:g.cl=false)(hs:s.size<=maxLen)(he:zS xs s=0)(h8:1<=bud)(hl:bud<=1000000000)(hk:0<=til)(hm:til<=1000000000)(hf:y9 D=true):
  Calls prog 27 #[.pointer (some ⟨gb,0,none⟩),.string s,.int .i64 bud,.int .i64 til] w λe w'=>e=.returned (.tuple #[.int .i64 0,.int .i64 6])/\OpP w B gb g m lo xs now R Q g.cl (λD'=>D'=D) w':=by
 obtain⟨db,tv,wb,ls,h5,hi,h3,-,-,ht,h7⟩:=h.lockd;have ha:Hid (∀w1,Calls prog 55 #[.int .i64 bud,.int .i64 1,.int .i64 1000000000] w1 λe w'=>e=.returned (.bool true)/\w'=w1):=by
  intro w1;have e:(decide (1<=bud) && decide (bud<=1000000000))=true:=by rw[Bool.and_eq_true];exact⟨Up h8,Up hl⟩
  have:=ye bud 1 1000000000 w1;rw[e]at this;exact this
 have hj:Hid (∀w1,Calls prog 55 #[.int .i64 til,.int .i64 0,.int .i64 1000000000] w1 λe w'=>e=.returned (.bool true)/\w'=w1):=by
  intro w1;have e:(decide (0<=til) && decide (til<=1000000000))=true:=by rw[Bool.and_eq_true];exact⟨Up hk,Up hm⟩
  have:=ye til 0 1000000000 w1;rw[e]at this;exact this
 have hv:vk xs s=.agg #[.string (qj s).k,.string (qj s).n,.string (qj s).r,.string (qK s).k,.string (qK s).n,.string (qK s).r]:=if_pos he;have hx:Hid (Calls prog 41 #[.pointer (some ⟨gb,0,none⟩),.string s] (w.setCell ⟨gb,0,none⟩ (.int .i32 1)) λe w2=>e=.returned (.tuple #[.agg #[.string (qj s).k,.string (qj s).n,.string (qj s).r,.string (qK s).k,.string (qK s).n,.string (qK s).r],.int .i64 0])/\ ∀ob,(w2.alloc ob).cell? ⟨gb,5,none⟩=some (.pointer (some ⟨db,0,none⟩))/\Hid (Calls prog 58 #[.pointer (some ⟨db,0,none⟩)] (w2.alloc ob) λe w4=>e=.returned (.bool true)/\w4.cell? ⟨gb,0,none⟩=some (.int .i32 1)/\w4.frozen? ⟨gb,0,none⟩=false/\Hid (OpP w B gb g m lo xs now R Q g.cl (λD'=>D'=D) (w4.setCell ⟨gb,0,none⟩ (.int .i32 0))))):=by
  have hr:=og (xs:=xs) (b:=gb) (w:=w.setCell ⟨gb,0,none⟩ (.int .i32 1)) s (λw1 hb=>h.hasRu hs (by rw[←h7];exact hb)) hs
  rw[hv,he]at hr;refine hr.mono ?_;rintro e w2 ⟨h1,h2⟩;refine⟨h1,λob=>?_⟩;have hb:Below (w.setCell ⟨gb,0,none⟩ (.int .i32 1)).heap.size (w.setCell ⟨gb,0,none⟩ (.int .i32 1)) (w2.alloc ob):=h2.trans ((Ou _ _).alloc h2.size _);refine⟨by rw[←h5];exact qa (yr h3 hb) (j:=5) rfl,?_⟩
  have hg:=mV (hi.below hb);rw[hf]at hg;refine hg.mono ?_;rintro e w4 ⟨hu,hn⟩;obtain⟨h4,hd⟩:=h.same (w2:=w4) (by rw[←h7];exact hb.trans (hn.mono hb.size)) (Rel:=λD'=>D'=D) rfl
  exact⟨hu,qa hd (j:=0) rfl,qd hd 0,h4⟩
 generalize qj s=x at *;generalize qK s=y at *;have h0:=qa h.pg (j:=0) rfl;have f0:=qd h.pg 0;have c5:=qa h3 (j:=5) rfl;have c6:=qa h3 (j:=6) rfl;have h9:=h.lk;have ho:=qc h.pg;clear h hi h3 ht h7 hv he hs h8 hl hk hm hf;obtain⟨lk,mb,tvg,ver,dk,cl⟩:=g;dsimp only at h9 h5;subst h9;subst h5;dsimp only at hc;subst hc;generalize OpP w B gb _ m lo xs now R Q _ (λD'=>D'=D)=PP at *;go_enter_defers func27,ntmps27
 go_wp2_with(first
  |(go_at_call 51;refine(lock_free Tryz.muLib ⟨gb,0,none⟩ _ h0 f0).mono ?_;rintro e w1 ⟨rfl,hy⟩;subst w1)
  |(go_at_call 55;refine(ha.out _).mono ?_;rintro e w2 ⟨rfl,hq⟩;subst w2;clear ha)
  |(go_at_call 55;refine(hj.out _).mono ?_;rintro e w2 ⟨rfl,hq⟩;subst w2;clear hj)
  |(go_at_call 41;refine hx.out.mono ?_;rintro e w2 ⟨rfl,h6⟩;obtain⟨g5,hp⟩:=h6 (.cells #[.string x.k,.string x.n,.string x.r,.string y.k,.string y.n,.string y.r] 77))
  |(go_at_call 58;refine(Calls.mono hp.out) ?_;rintro e w4 ⟨rfl,k0,z0,HP⟩))
 refine leaves_cons (f:=52) (args:= #[.pointer (some ⟨gb,0,none⟩)]) (by simp) (by simp[go_sem]) ?_
 refine(unlock_deferred Tryz.muLib ⟨gb,0,none⟩ .returning _ k0 z0).mono ?_;rintro e u' w6 ⟨rfl,rfl,rfl⟩;exact⟨.tuple #[.int .i64 0,.int .i64 6],by simp[results,results27,go_sem],rfl,HP.out⟩
open Go.RowKit Go.Shelf
structure PA where
 pb:Nat
 gb:Nat
 rb:Nat
 wb:Nat
 g:Pg
 r:Rg
 xs:List BA
 now:List BA
 m:List (Value×Value)
 lo:Nat
 D:Dk
 gs:List Gq
 ql:List Ql
 R:Nat->Prop
 Q:Nat->Prop
 K:Nat->Prop
structure DocS(B:Nat)(p:PA)(w:World):Prop where
 pair:w.heap[p.pb]?=some (.cells [Value.pointer (some ⟨p.gb,0,none⟩),.pointer (some ⟨p.rb,0,none⟩)].toArray 65 (0,0))
 qs:QsAt B p.rb p.r p.D p.gs p.ql p.wb w
 rules:w.ownsRow p.lo 163 2 p.r.rulesV (qh p.xs).length (flR (qh p.xs))
 nv:zH w p.r.nowV p.now
structure DocK(p:PA):Prop where
 pb:p.K p.pb
 rb:p.K p.rb
 wb:p.K p.wb
 ql: ∀q∈p.ql,p.K q.b/\ ∀k,q.nv.ownBlock=some k->p.K k
 rq: ∀k,p.r.reqV.ownBlock=some k->p.K k
 ru: ∀k,p.r.rulesV.ownBlock=some k->p.K k
 nv: ∀k,p.r.nowV.ownBlock=some k->p.K k
theorem QsAt.keep(h:QsAt B b r D gs qs wb w)(hb:w'.heap[b]?=w.heap[b]?)(hw:w'.heap[wb]?=w.heap[wb]?)(hr: ∀k,r.reqV.ownBlock=some k->w'.heap[k]?=w.heap[k]?)(hq: ∀q∈qs,w'.heap[q.b]?=w.heap[q.b]?/\ ∀k,q.nv.ownBlock=some k->w'.heap[k]?=w.heap[k]?):QsAt B b r D gs qs wb w':=by
 refine{h with rg:=hb.trans h.rg,row:=qF h.row hr,wrow:=hw.trans h.wrow,at':=λj q x g e1 e2 e3=>?_};obtain⟨a1,a2⟩:=h.at' j q x g e1 e2 e3;obtain⟨b1,b2⟩:=hq q (OZ e1);exact⟨b1.trans a1,xJ a2 b2⟩
variable{p:PA}
theorem DocS.keep(h:DocS B p w)(m:DocK p)(hk: ∀k,p.K k->w'.heap[k]?=w.heap[k]?):DocS B p w':=
 ⟨(hk _ m.pb).trans h.pair,h.qs.keep (hk _ m.rb) (hk _ m.wb) (λk e=>hk k (m.rq k e)) (λq hq=>⟨hk _ (m.ql q hq).1,λk e=>hk k ((m.ql q hq).2 k e)⟩),qF h.rules λk e=>hk k (m.ru k e),xJ h.nv λk e=>hk k (m.nv k e)⟩
structure PairA(B:Nat)(V:Int)(p:PA)(w:World):Prop where
 kd:KD w B p.gb p.g p.m p.lo p.xs p.now p.R p.Q p.D
 doc:DocS B p w
 mem:DocK p
 klt: ∀k,p.K k->k<w.heap.size
 KB: ∀k,p.K k->B<=k
 sim:Sim p.xs p.D p.gs
 cl:p.g.cl=p.r.closed
 ver:p.g.ver=p.r.version
 verV:p.g.ver<=V
 dis: ∀k,p.K k-> ¬p.Q k/\ ¬p.R k/\k≠p.gb/\p.g.tv.ownBlock≠some k
def PA.F(p:PA)(k:Nat):Prop:=p.Q k\/p.R k\/k=p.gb\/p.g.tv.ownBlock=some k\/p.K k
variable{X:Nat->Prop}
theorem KD.frm(h:KD w B gb g m lo xs now R Q D)(hf:Frm X w w')(hx: ∀k,X k-> ¬Q k/\ ¬R k/\k≠gb/\g.tv.ownBlock≠some k):KD w' B gb g m lo xs now R Q D:=by
 obtain⟨db,tv,wb,ls,d1,hd⟩:=h.dk;exact{h with pg:=(hf.block _ (qc h.pg) λe=>(hx _ e).2.2.1 rfl).trans h.pg,ru:=h.ru.frm hf λk hk e=>(hx k e).2.1 hk,tv:=xJ h.tv λk hk=>hf.block k (zG h.tv k hk).1 λe=>(hx k e).2.2.2 hk,dk:=⟨db,tv,wb,ls,d1,hd.keep hf.size (λk hk=>hf.block k (hd.lt k hk) λe=>(hx k e).1 hk) (λk hk=>hf.block k (hd.ru.lt k hk) λe=>(hx k e).2.1 hk)⟩}
variable{V:Int}
theorem PairA.lt(h:PairA B V p w): ∀k,p.F k->k<w.heap.size:=by
 rintro k (e|e|e|e|e)
 ·exact h.kd.lt.1 k e
 ·exact h.kd.ru.lt k e
 ·rw[e];exact qc h.kd.pg
 ·exact(zG h.kd.tv k e).1
 ·exact h.klt k e
theorem PairA.keep(h:PairA B V p w)(hf:Frm X w w')(hx: ∀k,p.F k-> ¬X k):PairA B V p w':=
 {h with kd:=h.kd.frm hf λk hk=>⟨λe=>hx k (Or.inl e) hk,λe=>hx k (Or.inr (Or.inl e)) hk,λe=>hx k (Or.inr (Or.inr (Or.inl e))) hk,λe=>hx k (Or.inr (Or.inr (Or.inr (Or.inl e)))) hk⟩,doc:=h.doc.keep h.mem λk hk=>hf.block k (h.klt k hk) (hx k (Or.inr (Or.inr (Or.inr (Or.inr hk))))),klt:=λk hk=>Ug (h.klt k hk) hf.size}
theorem PairA.below(h:PairA B V p w)(hb:Below w.heap.size w w'):PairA B V p w':=h.keep (X:=λ_=>False) (Frm.of_below hb) λ_ _ e=>e
theorem PairA.more{V':Int}(h:PairA B V p w)(hV:V<=V'):PairA B V' p w:={h with verV:=Int.le_trans h.verV hV}
def PaP(B:Nat)(V:Int)(p:PA)(w w':World):Prop:=
 ∃p',p'.pb=p.pb/\p'.gb=p.gb/\p'.rb=p.rb/\PairA B V p' w'/\Frm p.F w w'/\ ∀k,p'.F k->p.F k\/(w.heap.size<=k/\k<w'.heap.size)
structure HalfA(B:Nat)(V:Int)(p:PA)(g':Pg)(D':Dk)(Q':Nat->Prop)(w w1:World):Prop where
 old:PairA B V p w
 kd:KD w1 B p.gb g' p.m p.lo p.xs p.now p.R Q' D'
 doc:DocS B p w1
 fr:Frm (λk=>p.Q k\/k=p.gb) w w1
 qq: ∀k,Q' k->more p.Q w w1 k
 tv:g'.tv=p.g.tv
theorem PairA.half(h:PairA B V p w)(ho:OpP w B p.gb p.g p.m p.lo p.xs p.now p.R p.Q c Rel w1): ∃Q' D',Rel D'/\HalfA B V p {p.g with cl:=c} D' Q' w w1:=by
 obtain⟨Q',D',hr,hk,hf,hq⟩:=ho;refine⟨Q',D',hr,h,hk,h.doc.keep h.mem λk e=>hf.block k (h.klt k e) λe2=>?_,hf,hq,rfl⟩;obtain⟨d1,-,d3,-⟩:=h.dis k e;rcases e2 with e2|e2
 ·exact d1 e2
 ·exact d3 e2
variable{g':Pg}
theorem HalfA.below(h:HalfA B V p g' D' Q' w w1)(hb:Below w1.heap.size w1 w2):HalfA B V p g' D' Q' w w2:=by
 have hs:=h.fr.size;refine{h with kd:=h.kd.later hb,doc:=h.doc.keep h.old.mem λk e=>hb.block k (Ug (h.old.klt k e) hs),fr:=h.fr.trans (Frm.of_below (X:=λ_=>False) hb) λ_ _ e=>e.elim,qq:=λk e=>?_};rcases h.qq k e with e|e
 ·exact Or.inl e
 ·exact Or.inr ⟨e.1,Ug e.2 hb.size⟩
theorem HalfA.full(h:HalfA B V p g' D' Q' w w1){r':Rg}{gs':List Gq}{ql':List Ql}(hf:Frm p.K w1 w2)(hQ:QsAt B p.rb r' D' gs' ql' p.wb w2)(hS:Sim p.xs D' gs')(e1:r'.rulesV=p.r.rulesV)(e2:r'.nowV=p.r.nowV)(e3:g'.cl=r'.closed)(e4:g'.ver=r'.version)(e5:g'.ver<=V)(h4: ∀q∈ql',(p.K q.b\/w1.heap.size<=q.b)/\ ∀k,q.nv.ownBlock=some k->p.K k\/w1.heap.size<=k)(h8: ∀k,r'.reqV.ownBlock=some k->p.K k\/w1.heap.size<=k)(h1:w2.heap[p.pb]?=w1.heap[p.pb]?)(h7: ∀k,p.r.rulesV.ownBlock=some k->w2.heap[k]?=w1.heap[k]?)(h6: ∀k,p.r.nowV.ownBlock=some k->w2.heap[k]?=w1.heap[k]?)(hB:B<=w.heap.size):PaP B V p w w2:=by
 have hs:=h.fr.size;have h5:=hf.size;have o:=h.old;have h2: ∀k,p.K k-> ¬Q' k/\ ¬p.R k/\k≠p.gb/\g'.tv.ownBlock≠some k:=by
  intro k hk;obtain⟨d1,d2,d3,d4⟩:=o.dis k hk;refine⟨λe=>?_,d2,d3,by rw[h.tv];exact d4⟩
  rcases h.qq k e with e|e
  ·exact d1 e
  ·have:=o.klt k hk;omega
 have ha: ∀k,p.K k->k<w2.heap.size:=λk hk=>Ug (o.klt k hk) (Ue hs h5);refine⟨{p with g:=g',r:=r',D:=D',gs:=gs',ql:=ql',Q:=Q',K:=λk=>p.K k\/(w1.heap.size<=k/\k<w2.heap.size)},rfl,rfl,rfl,?_,?_,?_⟩
 ·have h0: ∀k,(∃cs t,w2.heap[k]?=some (.cells cs t (0,0)))->(p.K k\/w1.heap.size<=k)->p.K k\/(w1.heap.size<=k/\k<w2.heap.size):=by
   rintro k ⟨cs,t,e⟩ (e2|e2)
   ·exact Or.inl e2
   ·exact Or.inr ⟨e2,qc e⟩
  refine⟨h.kd.frm hf h2,⟨h1.trans h.doc.pair,hQ,?_,?_⟩,⟨Or.inl o.mem.pb,Or.inl o.mem.rb,Or.inl o.mem.wb,λq hq=>?_,λk hk=>?_,λk hk=>Or.inl (o.mem.ru k (by rw[←e1];exact hk)),λk hk=>Or.inl (o.mem.nv k (by rw[←e2];exact hk))⟩,?_,?_,hS,e3,e4,e5,?_⟩
  ·show w2.ownsRow p.lo _ 2 r'.rulesV _ _
   rw[e1];exact qF h.doc.rules h7
  ·show zH w2 r'.nowV p.now
   rw[e2];exact xJ h.doc.nv h6
  ·obtain⟨j,hj⟩:=OX.1 hq
   have h9:=(OE.1 hj).1;obtain⟨x,hx⟩: ∃x,D'.rs[j]?=some x:=⟨_,OC (by rw[←hQ.len];exact h9)⟩
   obtain⟨gq,hg,-⟩:=hS.get hx;obtain⟨a1,a2⟩:=hQ.at' j q x gq hj hx hg;refine⟨h0 _ ⟨_,_,a1⟩ (h4 q hq).1,λk hk=>?_⟩;obtain⟨-,cur,a3⟩:=zG a2 k hk;exact h0 _ ⟨_,_,a3⟩ ((h4 q hq).2 k hk)
  ·obtain⟨-,-,cur,a3⟩:=qf hQ.row k hk
   exact h0 _ ⟨_,_,a3⟩ (h8 k hk)
  ·rintro k (e|e)
   ·exact ha k e
   ·exact e.2
  ·rintro k (e|e)
   ·exact o.KB k e
   ·omega
  ·rintro k (e|e)
   ·exact h2 k e
   ·have h3: ∀k,Q' k->k<w1.heap.size:=λk e=>h.kd.lt.1 k e
    refine⟨λe2=>?_,λe2=>?_,λe2=>?_,λe2=>?_⟩
    ·have:=h3 k e2;omega
    ·have:=h.kd.ru.lt k e2;omega
    ·have e3:k=p.gb:=e2
     have:=qc h.kd.pg;omega
    ·have:=(zG h.kd.tv k e2).1;omega
 ·refine(h.fr.mono λk _ e=>?_).trans hf λk _ e=>Or.inr (Or.inr (Or.inr (Or.inr e)))
  rcases e with e|e
  ·exact Or.inl e
  ·exact Or.inr (Or.inr (Or.inl e))
 ·rintro k (e|e|e|e|e)
  ·rcases h.qq k e with e|e
   ·exact Or.inl (Or.inl e)
   ·exact Or.inr ⟨e.1,Ug e.2 h5⟩
  ·exact Or.inl (Or.inr (Or.inl e))
  ·exact Or.inl (Or.inr (Or.inr (Or.inl e)))
  ·have e:g'.tv.ownBlock=some k:=e
   rw[h.tv]at e;exact Or.inl (Or.inr (Or.inr (Or.inr (Or.inl e))))
  ·rcases e with e|e
   ·exact Or.inl (Or.inr (Or.inr (Or.inr (Or.inr e))))
   ·exact Or.inr ⟨by omega,e.2⟩
open Go.RowKit Go.Shelf Go.MuLone
def ZH(w:World)(r:Rq)(o:Option Addr)(c:Nat)(w':World):Prop:=
 w'.ownsRow w.heap.size 9 1 (.slice o r.us.length c) r.us.length (qg r.us)/\Below w.heap.size w w'
theorem wO(h:KD w B gb g m lo xs now R Q D)(id:Int):
  Calls prog 29 #[.pointer (some ⟨gb,0,none⟩),.int .i64 id] w λe w'=> ∃o c,e=.returned (.agg #[.int .i64 (uA D id).is,.int .i64 (uA D id).st,.bool (uA D id).al,.slice o (uA D id).us.length c])/\ZH w (uA D id) o c w':=by
 have h5:Below w.heap.size w (w.alloc (.cells aH.toArray 51)):=(Ou _ _).alloc (Uc _) _;have hi:(w.alloc (.cells aH.toArray 51)).heap.size=w.heap.size+1:=by show(w.heap.push _).size=_;simp
 have h7:=qn w aH 51;obtain⟨w0,hc⟩: ∃w0,w.alloc (.cells aH.toArray 51)=w0:=⟨_,rfl⟩;rw[hc]at h5 hi h7;have h6:=h.later h5;obtain⟨db,tv,wb,ls,hg,hl,h2,-,-,hd,hm⟩:=h6.lockd;have hA:=qc h.pg;have ha:(w0.setCell ⟨gb,0,none⟩ (.int .i32 1)).heap[w.heap.size]?=some (.cells aH.toArray 51 (0,0)):=(hd.block _ (qc h7) (by omega)).trans h7
 generalize hr:uA D id=r;have hx:Hid (Calls prog 64 #[.pointer (some ⟨db,0,none⟩),.int .i64 id] (w0.setCell ⟨gb,0,none⟩ (.int .i32 1)) λe w2=> ∃o c,e=.returned (.agg #[.int .i64 r.is,.int .i64 r.st,.bool r.al,.slice o r.us.length c])/\Hid (w2.heap[w.heap.size]?=some (.cells aH.toArray 51 (0,0)))/\Hid (zU w2 gb {g with lk:=1})/\Hid (∀w3,Frm (λk=>k=w.heap.size) w2 w3->ZH w r o c (w3.setCell ⟨gb,0,none⟩ (.int .i32 0)))):=by
  refine(eZ hl id).mono ?_;intro e w2 hp;rw[hr]at hp;obtain⟨o,c,rfl,ho,hb⟩:=hp;have h1:=yr h2 hb;have hs:=(hb.block _ (qc ha)).trans ha;refine⟨o,c,rfl,hs,h1,?_⟩;intro w3 hf;have h8:zU w3 gb {g with lk:=1}:=(hf.block gb (qc h1) (by omega)).trans h1
  have h3:Frm (λk=>k=gb) w w3:=by
   refine(((Frm.of_below h5).trans hd λk _ e=>e).trans (Frm.of_below (X:=λ_=>False) hb) λ_ _ e=>e.elim).trans hf λk hk e=>?_;omega
  have ht:(w3.setCell ⟨gb,0,none⟩ (.int .i32 0)).heap.size=w3.heap.size:=by simp[World.setCell]
  have he:zU (w3.setCell ⟨gb,0,none⟩ (.int .i32 0)) gb g:=by
   have:=yV h8 0;obtain⟨lk,mb,tv',ver,dk,cl⟩:=g;have h4:lk=0:=h.lk;subst h4;exact this
  have hq:Below w.heap.size w (w3.setCell ⟨gb,0,none⟩ (.int .i32 0)):=by
   refine⟨h3.os,h3.tape,h3.output,by rw[ht];exact h3.size,λk hk=>?_⟩
   by_cases e:k=gb
   ·rw[e];exact he.trans h.pg.symm
   ·exact(Ot _ _ _ _ e).trans (h3.block k hk e)
  refine⟨?_,hq⟩;have h9:w2.ownsRow (w.heap.size+1) 9 1 (.slice o r.us.length c) r.us.length (qg r.us):=by rw[←hi,←hm];exact ho
  have hv:w3.ownsRow (w.heap.size+1) 9 1 (.slice o r.us.length c) r.us.length (qg r.us):=qF h9 λk hk=>hf.block k (qf h9 k hk).1 (by have:=(qf h9 k hk).2.1;omega)
  exact xM (kV hv (by omega) _ _) (by omega)
 have h0:=qa h6.pg (j:=0) rfl;have f0:=qd h6.pg 0;have c5:=qa h2 (j:=5) rfl;have h4:=h.lk;have hu:w.alloc (.cells #[.int .i64 0,.int .i64 0,.bool false,.slice none 0 0] 51)=w0:=hc;clear h hl h2 hd hm h6 h5 h7 ha hr hc;obtain⟨lk,mb,tvg,ver,dk,cl⟩:=g;dsimp only at h4 hg;subst h4;subst hg;generalize ZH w r=PP at *;generalize r.is=is at *;generalize r.st=st at *;generalize r.al=al at *;generalize r.us.length=n at *;go_enter_defers func29,ntmps29
 go_wp2_with(first|(go_at_call 51;refine(lock_free Tryz.muLib ⟨gb,0,none⟩ _ h0 f0).mono ?_;rintro e w1 ⟨rfl,hz⟩;subst w1)|(go_at_call 64;refine(Calls.mono hx.out) ?_;rintro e w3 ⟨o,c,rfl,HR,HG,HP⟩;have q0:=qa HR.out (j:=0) rfl;have q1:=qa HR.out (j:=1) rfl;have q2:=qa HR.out (j:=2) rfl;have q3:=qa HR.out (j:=3) rfl;have z4:=qd HR.out 0;have z5:=qd HR.out 1;have z6:=qd HR.out 2;have z7:=qd HR.out 3))
 have hj:Frm (λk=>k=w.heap.size) w3 ((((w3.setCell ⟨w.heap.size,0,none⟩ (.int .i64 is)).setCell ⟨w.heap.size,1,none⟩ (.int .i64 st)).setCell ⟨w.heap.size,2,none⟩ (.bool al)).setCell ⟨w.heap.size,3,none⟩ (.slice o n c)):=(((zu _ _ _ _).trans (zu _ _ _ _) λ_ _ e=>e).trans (zu _ _ _ _) λ_ _ e=>e).trans (zu _ _ _ _) λ_ _ e=>e;have hn:zU ((((w3.setCell ⟨w.heap.size,0,none⟩ (.int .i64 is)).setCell ⟨w.heap.size,1,none⟩ (.int .i64 st)).setCell ⟨w.heap.size,2,none⟩ (.bool al)).setCell ⟨w.heap.size,3,none⟩ (.slice o n c)) gb ⟨1,mb,tvg,ver,.pointer (some ⟨db,0,none⟩),cl⟩:=(hj.block gb (qc HG.out) (by omega)).trans HG.out
 have hy: ¬w.heap.size=gb:=by omega
 have HF:Hid _:=HP.out _ hj;refine leaves_cons (f:=52) (args:= #[.pointer (some ⟨gb,0,none⟩)]) (by simp) (by simp[go_sem]) ?_
 refine(unlock_deferred Tryz.muLib ⟨gb,0,none⟩ .returning _ (qa hn (j:=0) rfl) (qd hn 0)).mono ?_;rintro e u' w6 ⟨rfl,rfl,rfl⟩;exact⟨.agg #[.int .i64 is,.int .i64 st,.bool al,.slice o n c],by simp[results,results29,go_sem,q0,q1,q2,q3],o,c,rfl,HF.out⟩
