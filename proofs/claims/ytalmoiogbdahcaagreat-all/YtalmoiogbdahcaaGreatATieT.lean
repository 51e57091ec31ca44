import Derived.Test.YtalmoiogbdahcaaGreatATieR
open Go.Proofs.Tryz
namespace Go.Proofs.YtalmoiogbdahcaaGreat
set_option maxRecDepth 100000
set_option maxHeartbeats 8000000
open Go.RowKit
def rW(x y:Nod):List Value:=[.string x.k,.string x.n,.string x.r,.string y.k,.string y.n,.string y.r]
structure AdMid(U:List BA)(ts:List (Nod×Nod))(xs:List BA)(lo tb:Nat)(f:Nod->Option Value)(who:Nod->Nat)(L:TL)(S:TS)(w0 w:World)(x y:Nod)(n:Nat)(L2:TL)(S2:TS)(wx:World):Prop where
 ta:TA U ts xs lo tb wx.heap.size f who L2 S2 wx
 b:Below lo w0 wx
 loc:L2={L with st:=L2.st,sr:=L2.sr}
 uss:S2.uss=S.uss
 le:S.le S2
 tl:S2.ths.length<=S.ths.length+n
 bx:wx.heap[w.heap.size]?=some (.cells (rW x y).toArray 146 (0,0))
variable{L:TL}{S:TS}{U xs:List BA}{f:Nod->Option Value}{lo tb:Nat}{ts:List (Nod×Nod)}{w w0:World}{who:Nod->Nat}{x y:Nod}
theorem AdMid.next{n:Nat}{L2:TL}{S2:TS}{wx:World}(h:AdMid U ts xs lo tb f who L S w0 w x y n L2 S2 wx)(HN:xS){z:Nod}(hz:uq z)(hr:z.r∈U)(hl:S.ths.length+n<4000){w1:World}(h3:Below wx.heap.size wx w1):
  Calls prog 86 #[.pointer (some ⟨tb,0,none⟩),.agg #[.string z.k,.string z.n,.string z.r]] w1 λe w'=> ∃L' S',e=.returned (cxN S' z)/\Kn S' z/\AdMid U ts xs lo tb f who L S w0 w x y (n+1) L' S' w'/\S2.le S':=by
 have h0:TA U ts xs lo tb w1.heap.size f who L2 S2 w1:=by
  have:=h.ta.below h3;exact⟨this.t,this.s.size h3.size,this.r,Uc _,this.tn⟩
 have h4:=h0.lo;refine(HN h0.t z hz hr (by have:=h.tl;omega) h4).mono ?_
 rintro e w' ⟨L',S',he,kz,r⟩;refine⟨L',S',he,kz,⟨h0.nstep r,NStep.below h0.t (h.b.trans (h3.mono h.ta.lo)) r,?_,r.uss.trans h.uss,h.le.trans r.le,by have:=r.tl;have:=h.tl;omega,?_⟩,r.le⟩
 ·have h1:=h.loc
  have h2:=r.loc;rw[h1]at h2;exact h2
 ·have hb:w1.heap[w.heap.size]?=some (.cells (rW x y).toArray 146 (0,0)):=(h3.block _ (qc h.bx)).trans h.bx
  rw[r.fr.block _ (qc hb) (λe=>?_)]
  ·exact hb
  ·rcases e with e|e
   ·rcases h0.t.th.kind e hb with e|e<;>revert e<;>decide
   ·rcases h0.t.rl.kind e hb with e|e<;>revert e<;>decide
theorem Kk(HN:Hid xS)(h:Bld U ts xs lo tb f who L S w0 w)(hl:ts.length<50)(hx:uq x)(hy:uq y)(rx:x.r∈U)(ry:y.r∈U):
  Calls prog 134 #[.pointer (some ⟨tb,0,none⟩),.agg #[.string x.k,.string x.n,.string x.r,.string y.k,.string y.n,.string y.r]] w λe w'=>e=.returned (.tuple #[])/\ ∃f' who' L' S',Bld U (ts++[(x,y)]) xs lo tb f' who' L' S' w0 w'/\L'.mb=L.mb:=by
 have hD:=h.tl;have HB:Hid (Bld U ts xs lo tb f who L S w0 w):=h;have H0:Hid (∀w1,Below w.heap.size w w1->w1.heap[w.heap.size]?=some (.cells (rW x y).toArray 146 (0,0))->AdMid U ts xs lo tb f who L S w0 w x y 0 L S w1):=by
  intro w1 h5 h0;have:=h.ta.below h5;exact⟨⟨this.t,this.s.size h5.size,this.r,Uc _,this.tn⟩,h.b.trans (h5.mono h.ta.lo),rfl,rfl,TS.le.refl _,Uc _,h0⟩
 have HX:Hid (∀w1,Below w.heap.size w w1->w1.heap[w.heap.size]?=some (.cells (rW x y).toArray 146 (0,0))->Calls prog 86 #[.pointer (some ⟨tb,0,none⟩),.agg #[.string x.k,.string x.n,.string x.r]] w1 λe w'=> ∃L' S',e=.returned (cxN S' x)/\Kn S' x/\AdMid U ts xs lo tb f who L S w0 w x y 1 L' S' w'):=by
  intro w1 h5 h0;refine((H0.out w1 h5 h0).next HN.out hx rx (by omega) (Ou _ _)).mono ?_
  rintro e w' ⟨L',S',he,k,hm,-⟩;exact⟨L',S',he,k,hm⟩
 have HY:Hid (∀L1 S1 w1,AdMid U ts xs lo tb f who L S w0 w x y 1 L1 S1 w1->Kn S1 x->Calls prog 86 #[.pointer (some ⟨tb,0,none⟩),.agg #[.string y.k,.string y.n,.string y.r]] w1 λe w'=> ∃L' S',e=.returned (cxN S' y)/\Kn S' y/\Kn S' x/\cxN S' x=cxN S1 x/\AdMid U ts xs lo tb f who L S w0 w x y 2 L' S' w'):=by
  intro L1 S1 w1 hm k1;refine(hm.next HN.out hy ry (by omega) (Ou _ _)).mono ?_
  rintro e w' ⟨L',S',he,k,hI,hr⟩;exact⟨L',S',he,k,k1.le hr,yI hr k1,hI⟩
 have hb:=qn w (rW x y) 146;clear h hD H0;go_enter func134,ntmps134;go_wp2
 go_cut [4,5]from 6 to 13 (λcx cy wx=> ∃(L2:TL) (S2:TS),cx=cxN S2 x/\cy=cxN S2 y/\Kn S2 x/\Kn S2 y/\AdMid U ts xs lo tb f who L S w0 w x y 2 L2 S2 wx)
 case first=>
  go_region_with(first
   |(go_at_call 86;refine(HX.out _ bl (by first|exact hb|(show(World.drewN _ _).heap[w.heap.size]?=_;exact hb)|(show(World.drew _).heap[w.heap.size]?=_;exact hb))).mono ?_;clear HX;rintro e w1 ⟨L1,S1,rfl,k1,h8⟩;have b3:=qa h8.bx (j:=3) rfl;have b4:=qa h8.bx (j:=4) rfl;have b5:=qa h8.bx (j:=5) rfl;have hL:Hid (AdMid U ts xs lo tb f who L S w0 w x y 1 L1 S1 w1):=h8;have hB:Hid (Kn S1 x):=k1;clear h8 k1;obtain⟨c1,hd⟩: ∃c1,cxN S1 x=c1:=⟨_,rfl⟩;have hv:Hid (cxN S1 x=c1):=hd;rw[hd];clear hd)
   |(go_at_call 86;refine(HY.out L1 S1 _ hL.out hB.out).mono ?_;clear HY;rintro e w2 ⟨L2,S2,rfl,ky,kx,hq,hg⟩;have hE:Hid (AdMid U ts xs lo tb f who L S w0 w x y 2 L2 S2 w2):=hg;have ho:Hid (Kn S2 x/\Kn S2 y):=⟨kx,ky⟩;have hA:Hid (cxN S2 x=cxN S1 x):=hq;clear hg kx ky hq;obtain⟨c2,hf⟩: ∃c2,cxN S2 y=c2:=⟨_,rfl⟩;have hJ:Hid (cxN S2 y=c2):=hf;rw[hf];clear hf))
  all_goals (go_wp2_with fail;go_meet)
  all_goals exact⟨L2,S2,by rw[hA.out,hv.out],by rw[hJ.out],ho.out.1,ho.out.2,hE.out⟩
 case rest=>
  obtain⟨L2,S2,rfl,rfl,kx,ky,hm⟩:=hcut;obtain⟨p,q,ha⟩: ∃p q,cxN S2 y=.complex .f64 p q:=⟨_,_,rfl⟩;obtain⟨v,st,w1,r1,⟨vo,vn,vc,rfl⟩,v',w2,r2,⟨vo',vn',vc',rfl⟩,w3,r3,f',t3,s3,rr3,fr3,kC⟩:=Kg hm.ta.t hm.ta.s (by omega) hm.ta.r kx ky ha
  have hn:TA U (ts++[(x,y)]) xs lo tb w3.heap.size f' who L2 S2 w3:=⟨t3,s3,rr3,Uc _,by rw[OK];simp;omega⟩
  have b3:Below lo w0 w3:=Frm.below hm.b fr3 hm.ta.lo λ_ _ e=>e;have c4:=qa hm.ta.t.blk (j:=4) rfl;have hO:=λo=>qa (qG hm.ta.t.blk o) (j:=4) rfl;have h9:=λw=>dS (S:=S2) (U:=U) hm.ta.t.ok ky w;have h0:w3.heap[w.heap.size]?=some (.cells (rW x y).toArray 146 (0,0)):=(kC _ _ _ hm.bx (by decide)).trans hm.bx
  unfold goInt at r1 r3;rw[ha]at h9 ⊢;have h4:Hid (TA U (ts++[(x,y)]) xs lo tb w3.heap.size f' who L2 S2 w3):=hn;have hu:Hid (Below lo w0 w3):=b3;have hs:Hid (Kn S2 y/\cxN S2 y=.complex .f64 p q):=⟨ky,ha⟩;have ht:Hid (S2.ths.length<=S.ths.length+2):=hm.tl;have h7:Hid (S2.uss=S.uss):=hm.uss;have hk:Hid (L2.mb=L.mb):=by show L2.mb=L.mb;rw[hm.loc]
  generalize cxN S2 x=cx at *;clear hm kx ky ha t3 s3 rr3 fr3 kC hn b3 HX HY hb;cases h3:y.isTh
  ·rw[h3]at h9
   have HF:Hid (Bld U (ts++[(x,y)]) xs lo tb f' who L2 S2 w0 w3):=HB.out.node h3 ht.out h7.out h4.out hu.out;clear h3 h0
   go_wp2_with(first|(at_builtin;refine qo rfl (.tmp 19) (.tmp 21) 170 rfl _ _ _ rfl rfl r2 ?_)|(go_at_call 181;refine(h9 _).mono ?_;rintro e w4 ⟨rfl,hC⟩;subst w4))
   go_end0
   exact⟨rfl,f',who,L2,S2,HF.out,hk.out⟩
  ·rw[h3]at h9
   have e3:=qa h4.out.t.blk (j:=3) rfl;have e5:=qa h4.out.t.blk (j:=5) rfl;have k3:=qa h0 (j:=3) rfl;have k4:=qa h0 (j:=4) rfl;have k5:=qa h0 (j:=5) rfl;have hK:Hid (∀w4,Below w3.heap.size w3 w4->Calls prog 136 #[.pointer (some ⟨L2.nu,0,none⟩),.agg #[.string y.k,.string y.n,.string y.r]] w4 λe w5=> ∃i:Nat,i<64/\e=.returned (.int .i64 i)/\w5.cell? ⟨tb,5,none⟩=some (.map (some L2.mw))/\ ∃w6,(Instr.mapUpdate 180 (.map (some L2.mw)) (.complex .f64 p q) (.int .u64 (2 ^ i:Nat))).run prog w5=.ok () w6/\ ∃f' who' L' S',Bld U (ts++[(x,y)]) xs lo tb f' who' L' S' w0 w6/\L'.mb=L.mb):=by
    intro w4 hc;have h6:TA U (ts++[(x,y)]) xs lo tb w4.heap.size f' who L2 S2 w4:=by
     have:=h4.out.below hc;exact⟨this.t,this.s.size hc.size,this.r,Uc _,this.tn⟩
    have hN:=HB.out.ul;refine(tm y h6.t.us hy h6.lo (by rw[h7.out];omega)).mono ?_
    intro e w5 hp;obtain⟨he,su',ta5,fr5⟩:=h6.user h3 hp;have hM:xe (zz S2.uss y) y<64:=by
     have h1:=iS (yJ.2 (Or.inr rfl):y∈zz S2.uss y);have h2:=cF S2.uss y;rw[h7.out]at h1 h2 ⊢;omega
    obtain⟨w6,r6,ta6,g6,z6⟩:=ta5.put (x:=y) hs.out.1 (2 ^ xe (zz S2.uss y) y);have hz:cxN {S2 with uss:=zz S2.uss y} y=.complex .f64 p q:=hs.out.2;rw[hz]at r6;have b6:Below lo w0 w6:=by
     have b5:Below lo w0 w5:=Frm.below (hu.out.trans (hc.mono h4.out.lo)) fr5 h6.lo (λk _ e=>(h6.t.us.lt e).2);exact b5.grown g6 ta5.lo (λj hj=>by rw[←Option.some.inj hj];exact h4.out.t.low)
    have ew:upd who y (2 ^ xe (zz S.uss y) y)=upd who y (2 ^ xe (zz S2.uss y) y):=by rw[h7.out]
    refine⟨_,hM,he,qa ta5.t.blk (j:=5) rfl,w6,r6,f',upd who y (2 ^ xe (zz S.uss y) y),{L2 with su:=su'},{S2 with uss:=zz S2.uss y},HB.out.thing h3 ht.out (by show zz S2.uss y=_;rw[h7.out]) hl ?_ b6,hk.out⟩
    rw[ew,z6];exact ta6
   clear h3 h0
   go_wp2_with(first|(at_builtin;refine qo rfl (.tmp 19) (.tmp 21) 170 rfl _ _ _ rfl rfl r2 ?_)|(go_at_call 181;refine(h9 _).mono ?_;rintro e w4 ⟨rfl,hC⟩;subst w4))
   go_region_with(first|(go_at_call 136;refine(hK.out _ bl).mono ?_;rintro e w5 ⟨i,hi,rfl,d5,w6,hQ,hF⟩;have HF:Hid (∃f' who' L' S',Bld U (ts++[(x,y)]) xs lo tb f' who' L' S' w0 w6/\L'.mb=L.mb):=hF;have hG:=λw=>fV i hi w;clear hF)|(go_at_call 178;refine(hG _).mono ?_;rintro e w7 ⟨rfl,hP⟩;subst w7;generalize 2 ^ i=pw at *))
   all_goals go_wp2
   all_goals go_end0
   all_goals exact⟨rfl,HF.out⟩
def iT(n:Nd):Nod:=⟨n.kind,n.name,n.rel⟩
def xq(s:BA):Nod×Nod:=(iT (qM s),iT (zL s))
def qt(now:List BA):List (Nod×Nod):=now.map xq
structure TupsOk(U now:List BA):Prop where
 len:now.length<=50
 ok: ∀s∈now,xG s=true/\s.size<=maxLen
 nd: ∀s∈now,uq (xq s).1/\uq (xq s).2/\(xq s).1.r∈U/\(xq s).2.r∈U
variable{now:List BA}
theorem YJ{k:Nat}{s:BA}(h:now[k]?=some s):qt (now.take (k+1))=qt (now.take k)++[xq s]:=by
 unfold qt;rw[js h,OR];rfl
theorem nE(s:BA)(w:World)(hs:s.size<=maxLen)(h:xG s=true):Calls prog 98 #[.string s] w λe w'=>e=.returned (.tuple #[.agg #[.string (xq s).1.k,.string (xq s).1.n,.string (xq s).1.r,.string (xq s).2.k,.string (xq s).2.n,.string (xq s).2.r],.bool true])/\Below w.heap.size w w':=by
 have key:Value.tuple #[pD s,.bool (xG s)]=.tuple #[.agg #[.string (xq s).1.k,.string (xq s).1.n,.string (xq s).1.r,.string (xq s).2.k,.string (xq s).2.n,.string (xq s).2.r],.bool true]:=by
  unfold pD xq iT;simp only[h,if_true]
 refine(od s w hs).mono ?_;rintro e w' ⟨he,hb⟩;exact⟨he.trans (congrArg Ending.returned key),hb⟩
variable{mb:Nat}{tv:Value}
theorem QR(HN:Hid xS)(hU:UOk U)(hr:zp w mb xs)(h5:qE w tv now)(ht:TupsOk U now):
  Calls prog 84 #[.map (some mb),tv] w λe w'=> ∃tb f who L S,e=.returned (.pointer (some ⟨tb,0,none⟩))/\Bld U (qt now) xs w.heap.size tb f who L S w w'/\L.mb=mb:=by
 have hG:=λw1=>run_makeMap (P:=prog) 179 w1;have hM:=λw1=>run_makeMap (P:=prog) 180 w1;have HR:Hid (zp w mb xs):=hr;have hi:=tq w;have hJ:Hid (∀w1:World,Calls prog 133 #[.slice (some ⟨w1.heap.size,0,none⟩) 1 1] (w1.alloc (.cells #[.string {data:= #[]}] 9)) λe w2=> ∃nb mb sv,e=.returned (.pointer (some ⟨nb,0,none⟩))/\df Value.string w2 w1.heap.size nb mb sv [qk]/\Below w1.heap.size w1 w2):=by
  intro w1;refine(Yl qk (by show(0:Nat)<=_;omega) w1.heap.size 1 _ (qa (qn w1 [Value.string qk] 9) (j:=0) rfl)).mono ?_
  rintro e w2 ⟨nb,mb,sv,he,hn,hb⟩;have h4:Below w1.heap.size w1 (w1.alloc (.cells #[.string {data:= #[]}] 9)):=bl;have hz:=h4.size;exact⟨nb,mb,sv,he,hn.base hz,h4.trans (hb.mono hz)⟩
 have hK:Hid (∀w1,Calls prog 132 #[.slice none 0 0] w1 (yY ndV ndC cZ 176 75 3 w1 [])):=λw1=>tq w1;have ha:Hid (∀(w1 w2 w3:World) (nt mt:Nat) (st:Value) (nr mr:Nat) (sr:Value) (nu mu:Nat) (su:Value),jQ w1 w.heap.size nt mt st []->Below w.heap.size w w1->df Value.string w2 w1.heap.size nr mr sr [qk]->Below w1.heap.size w1 w2->jQ w3 w2.heap.size nu mu su []->Below w2.heap.size w2 w3->
  Bld U [] xs w.heap.size (w3.heap.size+1+1) (λ_=>none) (λ_=>0) ⟨mb,nt,mt,st,nr,mr,sr,nu,mu,su,w3.heap.size,w3.heap.size+1⟩ S00 w (((w3.alloc (.map #[] 0)).alloc (.map #[] 0)).alloc (.cells #[.map (some mb),.pointer (some ⟨nt,0,none⟩),.pointer (some ⟨nr,0,none⟩),.pointer (some ⟨nu,0,none⟩),.map (some w3.heap.size),.map (some (w3.heap.size+1))] 182))):=
  λw1 w2 w3 nt mt st nr mr sr nu mu su h1 b1 h2 b2 h3 b3=>Kj hU HR.out h1 b1 h2 b2 h3 b3
 have HT:Hid (TupsOk U now):=ht;have hO:Hid (qE w tv now):=h5;have h8:=ht.len;obtain⟨nn,h6⟩: ∃nn,now.length=nn:=⟨_,rfl⟩;have h9:Hid (now.length=nn):=h6;have hv: ∃o c,tv=.slice o nn c:=by
  rcases h5 with⟨rfl,rfl⟩|⟨b,off,cap,rfl,-⟩
  ·exact⟨none,0,by rw[←h6];rfl⟩
  ·exact⟨_,cap,by rw[h6]⟩
 obtain⟨o,c,rfl⟩:=hv;rw[h6]at h8;clear hr h5 ht h6 hU;go_enter func84,ntmps84
 go_wp2_with(first
  |(go_at_call 132;refine hi.mono ?_;clear hi;rintro e w1 ⟨nt,mt,st,rfl,hy,h4⟩;have hA:Hid (jQ w1 w.heap.size nt mt st []/\Below w.heap.size w w1):=⟨hy,h4⟩;clear hy h4)
  |(go_at_call 133;refine(hJ.out _).mono ?_;rintro e w2 ⟨nr,mr,sr,rfl,hl,hp⟩;have hE:Hid (df Value.string w2 w1.heap.size nr mr sr [qk]/\Below w1.heap.size w1 w2):=⟨hl,hp⟩;clear hl hp)
  |(go_at_call 132;refine(hK.out _).mono ?_;rintro e w3 ⟨nu,mu,su,rfl,hD,hd⟩;have hq:Hid (Bld U [] xs w.heap.size (w3.heap.size+1+1) (λ_=>none) (λ_=>0) ⟨mb,nt,mt,st,nr,mr,sr,nu,mu,su,w3.heap.size,w3.heap.size+1⟩ S00 w (((w3.alloc (.map #[] 0)).alloc (.map #[] 0)).alloc (.cells #[.map (some mb),.pointer (some ⟨nt,0,none⟩),.pointer (some ⟨nr,0,none⟩),.pointer (some ⟨nu,0,none⟩),.map (some w3.heap.size),.map (some (w3.heap.size+1))] 182))):=ha.out w1 w2 w3 nt mt st nr mr sr nu mu su hA.out.1 hA.out.2 hE.out.1 hE.out.2 hD hd;clear hD hd))
 go_loopw [21] (λi wr=> ∃(k:Nat) (f:Nod->Option Value) (who:Nod->Nat) (L:TL) (S:TS),k<=nn/\i=.int .i64 k/\Bld U (qt (now.take k)) xs w.heap.size (w3.heap.size+1+1) f who L S w wr/\L.mb=mb) (λi _=>nn-(intOf i).toNat)
 case atStart=>exact⟨0,_,_,_,_,Um _,rfl,hq.out,rfl⟩
 case round=>
  obtain⟨k,f,who,L,S,hk,rfl,hB,hf⟩:=hrel;have hC:Hid (L.mb=mb):=hf;clear hf;have HB:Hid (Bld U (qt (now.take k)) xs w.heap.size (w3.heap.size+1+1) f who L S w wr):=hB;clear hB hq;by_cases hlt:k<nn
  ·have hm:k<now.length:=by have:=h9.out;omega
   obtain⟨s,hs⟩: ∃s,now[k]?=some s:=⟨_,OC hm⟩;have h7:=OZ hs;obtain⟨b,off,ho,hj⟩: ∃b off,o=some ⟨b,off,none⟩/\wr.cell? ⟨b,off+k,none⟩=some (.string s):=by
    rcases hO.out with⟨-,e⟩|⟨b,off,cap,e,hc⟩
    ·rw[e]at hs;simp at hs
    ·injection e with e
     refine⟨b,off,e,?_⟩;have h1:=hc k s hs;rw[←h1];exact HB.out.b.cell (qp h1)
   subst ho;have hP:=λw1=>nE s w1 (HT.out.ok s h7).2 (HT.out.ok s h7).1;have hF:Hid (∀w1,Below wr.heap.size wr w1->Calls prog 134 #[.pointer (some ⟨w3.heap.size+1+1,0,none⟩),.agg #[.string (xq s).1.k,.string (xq s).1.n,.string (xq s).1.r,.string (xq s).2.k,.string (xq s).2.n,.string (xq s).2.r]] w1 λe w'=>e=.returned (.tuple #[])/\ ∃f' who' L' S',Bld U (qt (now.take (k+1))) xs w.heap.size (w3.heap.size+1+1) f' who' L' S' w w'/\L'.mb=mb):=by
    intro w1 h4;have hL:Bld U (qt (now.take k)) xs w.heap.size (w3.heap.size+1+1) f who L S w w1:=by
     have h0:=HB.out;have h1:=h0.ta.below h4;exact⟨⟨h1.t,h1.s.size h4.size,h1.r,Uc _,h1.tn⟩,h0.b.trans (h4.mono h0.b.size),h0.us,h0.ul,h0.tl,h0.th,h0.no,h0.sm⟩
    obtain⟨n1,n2,n3,n4⟩:=HT.out.nd s h7;have:=Kk HN hL (by unfold qt;rw[OM,OQ];have:=h9.out;omega) n1 n2 n3 n4
    rw[YJ hs,←hC.out];exact this
   clear hs h7 hm;generalize (xq s).1.k=a1 at *;generalize (xq s).1.n=a2 at *;generalize (xq s).1.r=a3 at *;generalize (xq s).2.k=a4 at *;generalize (xq s).2.n=a5 at *;generalize (xq s).2.r=a6 at *
   go_wp2_with(first|(go_at_call 98;refine(hP _).mono ?_;rintro e w4 ⟨rfl,hg⟩)|(go_at_call 134;refine(hF.out _ (hg.alloc hg.size _)).mono ?_;rintro e w5 ⟨rfl,f5,who5,L5,S5,hu,hx⟩;have hI:Hid (L5.mb=mb):=hx;clear hx;have hN:Hid (Bld U (qt (now.take (k+1))) xs w.heap.size (w3.heap.size+1+1) f5 who5 L5 S5 w w5):=hu;clear hu))
   go_roundw
   case rel=>exact⟨k+1,f5,who5,L5,S5,by omega,by go_num,hN.out,hI.out⟩
   case measure=>simp[intOf];omega
  ·obtain rfl:k=nn:=by omega
   have hB:=HB.out;rw[O7 (by have:=h9.out;omega)]at hB
   have HF:Hid (Bld U (qt now) xs w.heap.size (w3.heap.size+1+1) f who L S w wr):=hB;clear hB;go_wp2;go_ret;exact⟨_,f,who,L,S,rfl,HF.out,hC.out⟩
theorem G3(HN:Hid xS)(hU:UOk U)(hr:zp w mb xs)(hnow:qE w tv now)(ht:TupsOk U now):
  Calls prog 84 #[.map (some mb),tv] w λe w'=> ∃tb f who L S,e=.returned (.pointer (some ⟨tb,0,none⟩))/\Bld U (qt now) xs w.heap.size tb f who L S w w':=
 (QR HN hU hr hnow ht).mono λ_ _ ⟨tb,f,who,L,S,h1,h2,_⟩=>⟨tb,f,who,L,S,h1,h2⟩
theorem tJ{wc:World}(hb:Below w.heap.size w wc)(c0 c1 c2 c3:Value)(o:Obj):Below w.heap.size w (((((wc.setCell ⟨w.heap.size,0,none⟩ c0).setCell ⟨w.heap.size,1,none⟩ c1).setCell ⟨w.heap.size,2,none⟩ c2).setCell ⟨w.heap.size,3,none⟩ c3).alloc o).drew:=
 (((((hb.setCell (Uc _) c0).setCell (Uc _) c1).setCell (Uc _) c2).setCell (Uc _) c3).alloc (by have:=hb.size;simp[World.setCell];exact this) o).drew
theorem wY(h:TiesAt U w lo tb L S f who)(hr:zp w L.mb xs)(kx:Kn S x)(hk:x.k.size<=maxLen)(hu:x.r.size<=maxLen):
  Calls prog 204 #[.pointer (some ⟨tb,0,none⟩),cxN S x] w λe w'=> ∃is a b y n c,e=.returned (.agg #[.int .i64 is,.string a,.string b,.slice y n c])/\WayAt w' (λ_=>True) (qi xs x) (.agg #[.int .i64 is,.string a,.string b,.slice y n c])/\Below w.heap.size w w':=by
 obtain⟨m,hm,h4⟩:=hr.look;have h4:=h4 x;obtain⟨m1,m2⟩:=h.ok.lt kx;have h1:=iS kx.1;have h2:=iS kx.2;have ho:=λw=>run_convert_float_int (P:=prog) (w:=w) 191 3 .f64 .i64 (fb (xe S.ths x.th)) (xe S.ths x.th) (by rw[underlying191];rfl) underlying3 (mj m1)
 have hl:=λw=>run_convert_float_int (P:=prog) (w:=w) 191 3 .f64 .i64 (fb (xe S.rels x.r)) (xe S.rels x.r) (by rw[underlying191];rfl) underlying3 (mj m2)
 have e1:S.ths[xe S.ths x.th]?=some x.th:=lS kx.1;have e2:S.rels[xe S.rels x.r]?=some x.r:=lS kx.2;obtain⟨tg,tc,hq,h9⟩:=xj h.th.row (by omega)
 obtain⟨rg,rc,hs,hx⟩:=xj h.rl.row (by omega)
 obtain⟨q1,q2,q3⟩:=KE e1;have t1:=h9 _ _ q1;have t2:=h9 _ _ q2;have t3:=h9 _ _ q3;have q4:(S.rels.flatMap λa=>[Value.string a])[xe S.rels x.r]?=some (.string x.r):=by
  rw[show(S.rels.flatMap λa=>[Value.string a])=S.rels.map Value.string from by induction S.rels with
   |nil=>rfl
   |cons a l ih=>simp[List.flatMap_cons,ih]]
  rw[OF,e2];rfl
 have r1:w.cell? ⟨rg,xe S.rels x.r,none⟩=some (.string x.r):=hx _ _ q4;have cA: ∀{b j:Nat} {v:Value} (o:Obj),w.cell? ⟨b,j,none⟩=some v->(w.alloc o).cell? ⟨b,j,none⟩=some v:=λo hc=>(World.cell?_of_block (Oq _ _ _ (qp hc))).trans hc;have c0:=qa h.blk (j:=0) rfl;have c1:=qa h.blk (j:=1) rfl;have c2:=qa h.blk (j:=2) rfl;have n1:=qa h.th.blk (j:=1) rfl;have n2:=qa h.rl.blk (j:=1) rfl;rw[hq]at n1;rw[hs]at n2;have cB: ∀{b j:Nat} {v:Value} (o o':Obj),w.cell? ⟨b,j,none⟩=some v->((w.alloc o).alloc o').cell? ⟨b,j,none⟩=some v:=λo o' hc=>(World.cell?_of_block (Oq _ _ _ (Ug (qp hc) (by simp)))).trans (cA o hc)
 have hP:=λo=>cA o c0;have hO:=λo o'=>cB o o' c0;have hJ:=λo=>cA o c1;have hy:=λo o'=>cB o o' c1;have hA:=λo=>cA o c2;have hG:=λo o'=>cB o o' c2;have hB:=λo=>cA o n1;have hK:=λo o'=>cB o o' n1;have hM:=λo=>cA o n2;have hC:=λo o'=>cB o o' n2;have hQ:=λo=>cA o t1;have hE:=λo o'=>cB o o' t1;have hI:=λo=>cA o t2;have hN:=λo o'=>cB o o' t2;have hz:=λo=>cA o t3;have hV:=λo o'=>cB o o' t3;have hL:=λo=>cA o r1;have hU:=λo o'=>cB o o' r1;have l1:=qp c0;have l2:=qp n1;have l3:=qp n2;have l4:=qp t1;have l5:=qp r1;have H5:tb<w.heap.size:=qc h.blk;have hf:Hid (∀w2,Below w.heap.size w w2->w2.cell? ⟨tb,0,none⟩=some (.map (some L.mb))):=λw2 hb=>(hb.cell (p:=⟨tb,0,none⟩) (qc h.blk)).trans c0;have ht:Hid (∀w2,Below w.heap.size w w2->(Instr.lookup 96 (.map (some L.mb)) (zl x.k x.r) true).run prog w2=.ok (.tuple #[(getM m (zl x.k x.r)).getD (.agg #[.int .i64 0,.string {data:= #[]},.string {data:= #[]},.slice none 0 0]),.bool (getM m (zl x.k x.r)).isSome]) w2):=
  λw2 hF=>(uV pp underlying96 (hm.move (hF.block _ hm.lt)) ⟨x.k,x.r,rfl,hk,hu⟩ (Tryz.zeroWay w2)).1
 have HW:Hid (∀w2 v,Below w.heap.size w w2->WayAt w (λ_=>True) (qi xs x) v->WayAt w2 (λ_=>True) (qi xs x) v):=λw2 v hb hv=>hv.move2 λg _ hg hc=>⟨hg,hb.block g (qc hc)⟩;clear hq hs h9 hx q1 q2 q3 q4 hm h e1 e2 hr cA cB;unfold cxN cxV;generalize xe S.ths x.th=ni at *;generalize xe S.rels x.r=nj at *;have h3:Hid (∀w2,Below w.heap.size w w2->(Instr.lookup 96 (.map (some L.mb)) (.agg #[.string x.k,.string x.r]) true).run prog w2=.ok (.tuple #[(getM m (zl x.k x.r)).getD (.agg #[.int .i64 0,.string {data:= #[]},.string {data:= #[]},.slice none 0 0]),.bool (getM m (zl x.k x.r)).isSome]) w2):=ht.out;have hD:=λo o' o''=>hf.out (((w.alloc o).alloc o').alloc o'') bl;have hv: ∃gi ga gb gy gn gc,(getM m (zl x.k x.r)).getD (.agg #[.int .i64 3,.string qk,.string qk,.slice none 0 0])=.agg #[.int .i64 gi,.string ga,.string gb,.slice gy gn gc]:=h4.agg;have HV:Hid (∃gi ga gb gy gn gc,(getM m (zl x.k x.r)).getD (.agg #[.int .i64 3,.string qk,.string qk,.slice none 0 0])=.agg #[.int .i64 gi,.string ga,.string gb,.slice gy gn gc]):=hv;have h6:Hid (WayAt w (λ_=>True) (qi xs x) ((getM m (zl x.k x.r)).getD (.agg #[.int .i64 3,.string qk,.string qk,.slice none 0 0]))):=h4;clear hv h4 ht hk hu kx;have hR:Hid (∀o:Obj,(w.alloc o).heap.size=w.heap.size+1):=λo=>(by show(w.heap.push _).size=_;simp)
 go_enter func204,ntmps204;go_wp2
 go_cut [5,6]from 9 to 32 (λp5 s6 wx=>p5=.pointer (some ⟨w.heap.size+1,0,none⟩)/\s6=.string x.r/\Below w.heap.size w wx/\wx.heap[w.heap.size]?=some (.cells [Value.int .i64 0,.string {data:= #[]},.string {data:= #[]},.slice none 0 0].toArray 106 (0,0))/\wx.heap[w.heap.size+1]?=some (.cells [Value.string x.k,.string x.n,.string x.th.r].toArray 75 (0,0)))
 case first=>
  go_region
  go_wp2_with fail
  go_meet
  refine⟨rfl,rfl,bl,?_,?_⟩
  ·exact qG (qn w [Value.int .i64 0,.string {data:= #[]},.string {data:= #[]},.slice none 0 0] _) _
  ·have:=qn (w.alloc (.cells #[Value.int .i64 0,.string {data:= #[]},.string {data:= #[]},.slice none 0 0] 106)) [Value.string x.k,.string x.n,.string x.th.r] 75
   rw[hR.out]at this;exact this
 case rest=>
  obtain⟨rfl,rfl,h8,h0,ha⟩:=hcut;have h7:Hid (wc.heap[w.heap.size]?=_):=h0;have h5:Hid (Below w.heap.size w wc):=h8;have d0:=hf.out wc h8;have hZ:=λo=>hf.out (wc.alloc o) (h8.alloc h8.size _);have e0:=qa ha (j:=0) rfl;have H1:=λo=>qa (qG ha o) (j:=0) rfl;have g0:=λo=>qa (qG h0 o) (j:=0) rfl;have g1:=λo=>qa (qG h0 o) (j:=1) rfl;have g2:=λo=>qa (qG h0 o) (j:=2) rfl;have g3:=λo=>qa (qG h0 o) (j:=3) rfl;have z0:=λo=>qd (qG h0 o) 0;have z1:=λo=>qd (qG h0 o) 1;have z2:=λo=>qd (qG h0 o) 2;have z3:=λo=>qd (qG h0 o) 3;have H3:=qa h0 (j:=0) rfl;have H2:=qd h0 0;have H6:=qa h0 (j:=1) rfl;have H7:=qd h0 1;have H8:=qa h0 (j:=2) rfl;have H0:=qd h0 2;have hX:=qa h0 (j:=3) rfl;have hY:=qd h0 3;have H4:w.heap.size<wc.heap.size:=qc h0;have hS:w.heap.size+1<wc.heap.size:=qc ha;clear n1 n2 t1 t2 t3 r1 c1 c2 hB hM hQ hI hz hL hJ hA hK hC hE hN hV hU hy hG ho hl l2 l3 l4 l5 c0 hP hO hD ha h0 h8;cases hg:getM m (zl x.k x.r)with
  |none=>
   rw[hg]at h3 h6;dsimp only[Option.getD_none,Option.isSome_none]at h6 h3;have hj:=h3.out wc.drew h5.out.drew;have he:=h3.out (wc.alloc (.cells #[.int .i64 0,.string {data:= #[]},.string {data:= #[]},.slice none 0 0] 106)).drew (h5.out.alloc h5.out.size _).drew;clear hg HV;go_wp2
   go_region
   all_goals go_wp2
   all_goals have hT:=λo=>qG (Xr h7.out (.int .i64 3) (.string {data:= #[]}) (.string {data:= #[]}) (.slice none 0 0)) o
   all_goals have hp:=λo=>qa (hT o) (j:=0) rfl
   all_goals have hi:=λo=>qa (hT o) (j:=1) rfl
   all_goals have hd:=λo=>qa (hT o) (j:=2) rfl
   all_goals have hn:=λo=>qa (hT o) (j:=3) rfl
   all_goals refine bodyPost_ret (v:=.agg #[.int .i64 3,.string qk,.string qk,.slice none 0 0]) (by simp[results,results204,go_sem,qk,hp,hi,hd,hn]) rfl ⟨3,qk,qk,none,0,0,rfl,HW.out _ _ ?_ h6.out,?_⟩
   all_goals exact tJ h5.out _ _ _ _ _
  |some u=>
   rw[hg]at h3 h6 HV;dsimp only[Option.getD_some,Option.isSome_some]at h6 h3 HV;obtain⟨gi,ga,gb,gy,gn,gc,rfl⟩:=HV.out;have hj:=h3.out wc.drew h5.out.drew;have he:=h3.out (wc.alloc (.cells #[.int .i64 0,.string {data:= #[]},.string {data:= #[]},.slice none 0 0] 106)).drew (h5.out.alloc h5.out.size _).drew;clear hg HV;go_wp2
   go_region
   all_goals go_wp2
   all_goals have hT:=λo=>qG (Xr h7.out (.int .i64 gi) (.string ga) (.string gb) (.slice gy gn gc)) o
   all_goals have hp:=λo=>qa (hT o) (j:=0) rfl
   all_goals have hi:=λo=>qa (hT o) (j:=1) rfl
   all_goals have hd:=λo=>qa (hT o) (j:=2) rfl
   all_goals have hn:=λo=>qa (hT o) (j:=3) rfl
   all_goals refine bodyPost_ret (v:=.agg #[.int .i64 gi,.string ga,.string gb,.slice gy gn gc]) (by simp[results,results204,go_sem,hp,hi,hd,hn]) rfl ⟨gi,ga,gb,gy,gn,gc,rfl,HW.out _ _ ?_ h6.out,?_⟩
   all_goals exact tJ h5.out _ _ _ _ _
