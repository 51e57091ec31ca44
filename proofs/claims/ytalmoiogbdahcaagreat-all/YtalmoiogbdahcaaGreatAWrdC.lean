import Derived.Test.YtalmoiogbdahcaaGreatAWrdA
open Go.Proofs.Tryz
namespace Go.Proofs.YtalmoiogbdahcaaGreat
set_option maxRecDepth 100000
set_option maxHeartbeats 8000000
open Go.RowKit Go.Lib
def nl:Nat->List UInt8->Option Nat
 |_,[]=>some 0
 |0,c::l=>if zd (c::l)=0\/zv c.toNat=true then some 0 else none
 |r+1,c::l=>if zd (c::l)=0\/zv c.toNat=true then some 0 else(nl r ((c::l).drop (zd (c::l)))).map (· +zd (c::l))
def zk(s:BA):BA:=match nl 8 s.data.toList with|some (n+1)=>s.extract 0 (n+1)|_=>{data:= #[]}
def Rd.name(q:Rd):Rd:=match nl 8 q.rest.data.toList with|some (n+1)=>{q with rest:=q.rest.extract (n+1) q.rest.size}|_=>q.fail
theorem ey(r:Nat):nl r []=some 0:=by cases r<;>rfl
theorem ar(r:Nat)(c:UInt8)(l:List UInt8)(h:zd (c::l)=0\/zv c.toNat=true):nl r (c::l)=some 0:=by
 cases r<;>rw[nl,if_pos h]
theorem QT(c:UInt8)(l:List UInt8)(h: ¬(zd (c::l)=0\/zv c.toNat=true)):nl 0 (c::l)=none:=by rw[nl,if_neg h]
theorem rZ(r:Nat)(c:UInt8)(l:List UInt8)(h: ¬(zd (c::l)=0\/zv c.toNat=true)):nl (r+1) (c::l)=(nl r ((c::l).drop (zd (c::l)))).map (· +zd (c::l)):=by rw[nl,if_neg h]
variable{a b:BA}
theorem py(h:a=b):Ending.returned (.string a)=.returned (.string b):=by rw[h]
variable{B r:Nat}{q:Rd}{w w':World}
theorem je(h:zg w r q)(hb:Below B w w')(hr:r<B):zg w' r q:=by
 unfold zg at h ⊢;rw[hb.block r hr];exact h
theorem yO(hb:Below w.heap.size w w'):w.grownBy w' (some r):=
 ⟨hb.os,hb.tape,hb.output,hb.size,λk hk _=>hb.block k hk⟩
variable{p:Nat}{s:BA}
theorem Xl(h:p<s.size)(hg:kr s p=false):zd (s[p]'h::s.data.toList.drop (p+1))=0\/zv (s[p]'h).toNat=true:=by
 have h1:(s.data.toList.getD p 0).toNat=(s[p]'h).toNat:=by
  rw[List.getD_eq_getElem?_getD,OC (by simpa using h)];rfl
 unfold kr at hg;rw[h1,zT s p h]at hg;by_cases h0:zd (s[p]'h::s.data.toList.drop (p+1))=0
 ·exact Or.inl h0
 ·right;simpa[h0]using hg
theorem YR(h:p<s.size)(hg:kr s p=true): ¬(zd (s[p]'h::s.data.toList.drop (p+1))=0\/zv (s[p]'h).toNat=true):=by
 have h1:(s.data.toList.getD p 0).toNat=(s[p]'h).toNat:=by
  rw[List.getD_eq_getElem?_getD,OC (by simpa using h)];rfl
 unfold kr at hg;rw[h1,zT s p h]at hg;simp at hg;rintro(h0|h0)
 ·exact hg.1 h0
 ·rw[hg.2]at h0;cases h0
theorem vA(r:Nat)(q:Rd)(w:World)(hl:zg w r q)(hs:q.rest.size<=maxLen):
  Calls prog 141 #[.pointer (some ⟨r,0,none⟩)] w λe w'=>e=.returned (.string (zk q.rest))/\zg w' r q.name/\w.grownBy w' (some r):=by
 have h4:r<w.heap.size:=qc hl;obtain⟨h0,-,-,-,-,-⟩:=uX hl;unfold maxLen at hs;have HQ:Hid (zg w r q):=hl;clear hl;obtain⟨s,opn,fld⟩:=q;dsimp only at h0 hs ⊢;go_enter func141,ntmps141;go_wp2
 go_loopw [3,4,5,6] (λe n _ _ wr=> ∃p k:Nat,e=.int .i64 s.size/\n=.int .i64 k/\k<=8/\p<=s.size/\wr.heap[w.heap.size]?=some (.stringIter s p)/\Below w.heap.size w wr/\nl 8 s.data.toList=(nl (8-k) (s.data.toList.drop p)).map (· +p)/\(k=0↔p=0)) (λ_ _ _ _ wr=>s.size-wr.iterPos w.heap.size)
 case atStart=>exact⟨0,0,rfl,rfl,by omega,by omega,World.iter_heap _ _ _,(Ou _ _).alloc (Uc _) _,by simp,by simp⟩
 case round=>
  obtain⟨p,k,rfl,rfl,hk,hp,hD,hb,hC,hB⟩:=hrel;have HN:Hid (nl 8 s.data.toList=(nl (8-k) (s.data.toList.drop p)).map (· +p)):=hC;have HB:Hid (Below w.heap.size w wr):=hb;have HI:Hid (wr.heap[w.heap.size]?=some (.stringIter s p)):=hD;have HK:Hid (k=0↔p=0):=hB;have hJ:wr.cell? ⟨r,0,none⟩=some (.string s):=by rw[←h0];exact hb.cell h4
  clear hC hB hb hD;by_cases hlt:p<s.size
  ·have hn:=run_next_any_at (P:=prog) wr w.heap.size s p 0 HI.out hlt
   have hE:=Kp s p hlt;have hA:=mq s p hlt;have hu:((Utf8.decode s p).1:Int)<=1114111/\(((Utf8.decode s p).1:Int)<55296\/57343<((Utf8.decode s p).1:Int)):=by
    rcases hA with⟨-,hd,-⟩|⟨-,-,hv,-⟩
    ·rw[hd];decide
    ·simp[Utf8.valid]at hv;omega
   have hg:=λw=>Xj ((Utf8.decode s p).1:Int) w (by omega) hu.1 hu.2
   have hf:=λw=>Xh ((Utf8.decode s p).1:Int) (s.extract p s.size) w;obtain⟨w2,hi⟩: ∃w2,wr.iterAt w.heap.size s (p+(Utf8.decode s p).2)=w2:=⟨_,rfl⟩;have ht:Hid (w2.heap[w.heap.size]?=some (.stringIter s (p+(Utf8.decode s p).2))):=by show _=_;rw[←hi];exact iterAt_heap _ _ _ _ _ HI.out
   have h2:Hid (Below w.heap.size w w2):=by show Below _ _ _;rw[←hi];exact below_iterAt HB.out (Uc _) _ _
   have ha:w.heap.size<w2.heap.size:=qc ht.out;rw[hi]at hn;clear hi hu;have HD:Hid ((zd (s.data.toList.drop p)=0/\Utf8.decode s p=(65533,1)/\128<=(s[p]'hlt).toNat)\/(zd (s.data.toList.drop p)=(Utf8.decode s p).2/\1<=(Utf8.decode s p).2/\Utf8.valid (Utf8.decode s p).1=true/\(((s[p]'hlt).toNat<128/\(Utf8.decode s p).1=(s[p]'hlt).toNat)\/(128<=(s[p]'hlt).toNat/\128<=(Utf8.decode s p).1)))):=hA;clear hA;generalize ((Utf8.decode s p).1:Int)=c at *;generalize (Utf8.decode s p).2=kk at *;have HG:Hid ((ik c && !vN c (s.extract p s.size))=kr s p):=hE;clear hE;generalize ik c=bi at *;generalize vN c (s.extract p s.size)=bb at *;have h3:=h2.out.size;have hj:w2.cell? ⟨r,0,none⟩=some (.string s):=by rw[←h0];exact h2.out.cell h4
   cases hgd:kr s p
   ·have HL:Hid (nl 8 s.data.toList=some p):=by
     show _=_
     rw[HN.out,zT s p hlt,ar _ _ _ (Xl hlt hgd)];simp
    have hy:bi=false\/(bi=true/\bb=true):=by
     have:=HG.out;rw[hgd]at this;cases bi<;>cases bb<;>simp at this ⊢
    clear hgd;rcases hy with rfl|⟨rfl,rfl⟩
    all_goals
     by_cases hk0:k=0
     ·subst hk0
      have hF:p=0:=HK.out.1 rfl;subst hF;rw[show s.extract 0 s.size=s by simp]at hf
      have HF:Hid (zk s={data:= #[]}/\(Rd.mk s opn fld).name=(Rd.mk s opn fld).fail):=by
       have h8:=HL.out
       constructor
       ·unfold zk;rw[h8]
       ·unfold Rd.name;dsimp only;rw[h8]
      go_wp2_with(first|(go_at_call 160;have h5:=je (je HQ.out h2.out h4) h1 (by omega);refine(iV r _ _ h5).mono ?_;rintro e wf ⟨rfl,h9,h7⟩)|(go_at_call 183;refine(hg _).mono ?_;rintro e w3 ⟨rfl,h1⟩;have hz:=(h1.cell (p:=⟨r,0,none⟩) (by show r<_;omega)).trans hj)|(go_at_call 184;refine(hf _).mono ?_;rintro e w4 ⟨rfl,rfl⟩))
      go_ret;exact⟨py HF.out.1.symm,by rw[HF.out.2];exact h9,qr (yO (h2.out.trans (h1.mono h3))) h7⟩
     ·have hG:((k:Int)==0)=false:=by simp;omega
      have hF:0<p:=by have:=HK.out;omega
      have HF:Hid (zk s=s.extract 0 p/\(Rd.mk s opn fld).name=Rd.mk (s.extract p s.size) opn fld):=by
       obtain⟨m,rfl⟩: ∃m,p=m+1:=⟨p-1,by omega⟩
       have h8:=HL.out
       constructor
       ·unfold zk;rw[h8]
       ·unfold Rd.name;dsimp only;rw[h8]
      have hr:=(uX (je HQ.out h2.out h4)).2.2.2.1
      go_wp2_with(first|(go_at_call 183;refine(hg _).mono ?_;rintro e w3 ⟨rfl,h1⟩;have hz:=(h1.cell (p:=⟨r,0,none⟩) (by show r<_;omega)).trans hj;have hI:=(h1.frozen (p:=⟨r,0,none⟩) (by show r<_;omega)).trans hr)|(go_at_call 184;refine(hf _).mono ?_;rintro e w4 ⟨rfl,rfl⟩))
      go_ret;refine⟨py HF.out.1.symm,?_,zf (yO (h2.out.trans (h1.mono h3))) _ _⟩;rw[HF.out.2];exact pu (je (je HQ.out h2.out h4) h1 (by omega)) _
   ·have hc:bi=true/\bb=false:=by
     have:=HG.out;rw[hgd]at this;cases bi<;>cases bb<;>simp at this ⊢
    obtain⟨rfl,rfl⟩:=hc;have h6:=YR hlt hgd;have he:zd (s[p]'hlt::s.data.toList.drop (p+1))=kk/\1<=kk:=by
     rw[←zT s p hlt]at h6 ⊢;rcases HD.out with⟨q,-,-⟩|⟨q1,q2,-⟩
     ·exact absurd (Or.inl q) h6
     ·exact⟨q1,q2⟩
    have hq:p+kk<=s.size:=by
     have:=gH (s[p]'hlt::s.data.toList.drop (p+1));rw[he.1,←zT s p hlt,List.length_drop]at this;simp at this;omega
    clear hgd;by_cases hk8:k=8
    ·subst hk8
     have HF:Hid (zk s={data:= #[]}/\(Rd.mk s opn fld).name=(Rd.mk s opn fld).fail):=by
      have h8:nl 8 s.data.toList=none:=by
       rw[HN.out,zT s p hlt];show(nl 0 _).map _=none
       rw[QT _ _ h6];rfl
      constructor
      ·unfold zk;rw[h8]
      ·unfold Rd.name;dsimp only;rw[h8]
     clear h6 he hq
     go_wp2_with(first|(go_at_call 160;have h5:=je (je HQ.out h2.out h4) h1 (by omega);refine(iV r _ _ h5).mono ?_;rintro e wf ⟨rfl,h9,h7⟩)|(go_at_call 183;refine(hg _).mono ?_;rintro e w3 ⟨rfl,h1⟩;have hz:=(h1.cell (p:=⟨r,0,none⟩) (by show r<_;omega)).trans hj)|(go_at_call 184;refine(hf _).mono ?_;rintro e w4 ⟨rfl,rfl⟩))
     go_ret;exact⟨py HF.out.1.symm,by rw[HF.out.2];exact h9,qr (yO (h2.out.trans (h1.mono h3))) h7⟩
    ·have HF:Hid (nl 8 s.data.toList=(nl (8-(k+1)) (s.data.toList.drop (p+kk))).map (· +(p+kk))):=by
      show _=_
      rw[HN.out,show 8-k=(8-(k+1))+1 by omega,zT s p hlt,rZ _ _ _ h6,he.1,←zT s p hlt,Ow,Option.map_map]
      congr 1
      funext x;simp;omega
     have HP:Hid (1<=kk/\p+kk<=s.size):=⟨he.2,hq⟩;clear h6 he hq
     go_wp2_with(first|(go_at_call 183;refine(hg _).mono ?_;rintro e w3 ⟨rfl,h1⟩;have hz:=(h1.cell (p:=⟨r,0,none⟩) (by show r<_;omega)).trans hj)|(go_at_call 184;refine(hf _).mono ?_;rintro e w4 ⟨rfl,rfl⟩))
     go_roundw
     case rel=>
      have hh:=HP.out;have hx:w4.heap[w.heap.size]?=some (.stringIter s (p+kk)):=by rw[h1.block _ ha];exact ht.out
      exact⟨p+kk,k+1,rfl,by go_num,by omega,hh.2,hx,h2.out.trans (h1.mono h3),HF.out,by omega⟩
     case measure=>
      have hh:=HP.out;have hx:w4.heap[w.heap.size]?=some (.stringIter s (p+kk)):=by rw[h1.block _ ha];exact ht.out
      have e1:w4.iterPos w.heap.size=p+kk:=by unfold World.iterPos;rw[hx]
      have e2:wr.iterPos w.heap.size=p:=by unfold World.iterPos;rw[HI.out]
      rw[e1,e2];omega
  ·obtain rfl:p=s.size:=by omega
   have hn:=run_next_end_at (P:=prog) wr w.heap.size s s.size 0 HI.out hlt;have HL:Hid (nl 8 s.data.toList=some s.size):=by
    show _=_
    rw[HN.out,Ox (by simp),ey];simp
   have h5:=je HQ.out HB.out h4;by_cases hk0:k=0
   ·subst hk0
    have ho:s.size=0:=HK.out.1 rfl;have HF:Hid (zk s={data:= #[]}/\(Rd.mk s opn fld).name=(Rd.mk s opn fld).fail):=by
     have h8:=HL.out;rw[ho]at h8
     constructor
     ·unfold zk;rw[h8]
     ·unfold Rd.name;dsimp only;rw[h8]
    clear ho
    go_wp2_with(go_at_call 160;refine(iV r _ _ h5).mono ?_;rintro e wf ⟨rfl,h9,h7⟩)
    go_ret;exact⟨py HF.out.1.symm,by rw[HF.out.2];exact h9,qr (yO HB.out) h7⟩
   ·have hG:((k:Int)==0)=false:=by simp;omega
    have ho:0<s.size:=by have:=HK.out;omega
    have HF:Hid (zk s=s/\(Rd.mk s opn fld).name=Rd.mk ByteArray.empty opn fld):=by
     obtain⟨m,hm⟩: ∃m,s.size=m+1:=⟨s.size-1,by omega⟩
     have h8:=HL.out;rw[hm]at h8
     constructor
     ·unfold zk;rw[h8];dsimp only;rw[←hm];simp
     ·unfold Rd.name;dsimp only;rw[h8];dsimp only;rw[←hm];simp
    obtain⟨-,-,-,hK,-,-⟩:=uX h5;go_wp2;go_ret;refine⟨py HF.out.1.symm,?_,zf (yO HB.out) _ _⟩;rw[HF.out.2];exact pu h5 _
open Go.RowKit
theorem zR{W w1:World}(h:W.grownBy w1 (some r)):(∀b o,b<W.heap.size-> ¬b=r->w1.cell? ⟨b,o,none⟩=W.cell? ⟨b,o,none⟩)/\(∀b o,b<W.heap.size-> ¬b=r->w1.frozen? ⟨b,o,none⟩=W.frozen? ⟨b,o,none⟩):=
 ⟨λb o hb hn=>World.cell?_of_block (h.block b hb (by simpa using hn)),λb o hb hn=>World.frozen?_of_block (h.block b hb (by simpa using hn))⟩
theorem zD(h:zg w r q)(o:Obj):zg (w.alloc o) r q:=by
 unfold zg at h ⊢;rw[Oq _ _ _ (qc h)];exact h
theorem zN(o:Obj)(row:Option Nat):w.grownBy (w.alloc o) row:=⟨rfl,rfl,rfl,by simp,λk hk _=>Oq _ _ _ hk⟩
theorem xz{wr:World}{row:Option Nat}(h:w.grownBy wr row){b:Nat}(hb:w.heap.size<=b)(j:Nat)(u:Value):w.grownBy (wr.setCell ⟨b,j,none⟩ u) row:=
 ⟨h.os,h.tape,h.output,by simpa[World.setCell]using h.size,λk hk hne=>by
  rw[Ot _ _ _ _ (by show k≠b;omega)];exact h.block k hk hne⟩
theorem x6{b:Nat}(h:zg w r q)(hb: ¬r=b)(j:Nat)(u:Value):zg (w.setCell ⟨b,j,none⟩ u) r q:=by
 unfold zg at h ⊢;rw[Ot _ _ _ _ hb];exact h
theorem tL(q:Rd):q.fail.rest.size<=q.rest.size:=Um _
theorem yj(q:Rd)(m:BA):(q.sees m).rest.size<=q.rest.size:=by
 unfold Rd.sees;split
 ·simp
 ·exact Uc _
theorem xE(q:Rd)(m:BA):(q.must m).rest.size<=q.rest.size:=by
 unfold Rd.must;split
 ·exact yj q m
 ·exact tL q
theorem xV(q:Rd):q.name.rest.size<=q.rest.size:=by
 unfold Rd.name;split
 ·simp
 ·exact tL q
structure Nd where
 kind:BA
 name:BA
 rel:BA
def Nd.val(n:Nd):Value:=.agg #[.string n.kind,.string n.name,.string n.rel]
def Rd.thing(q:Rd):Rd:=((q.name).must {data:= #[58]}).name
def zm(q:Rd):Nd:=⟨zk q.rest,zk (q.name.must {data:= #[58]}).rest,{data:= #[]}⟩
def Rd.node(q:Rd):Rd:=((q.thing).must {data:= #[35]}).name
def jD(q:Rd):Nd:={zm q with rel:=zk (q.thing.must {data:= #[35]}).rest}
def Rd.subject(q:Rd):Rd:=if qP q.thing.rest {data:= #[35]}then(q.thing.sees {data:= #[35]}).name else q.thing
def yk(q:Rd):Nd:=if qP q.thing.rest {data:= #[35]}then{zm q with rel:=zk (q.thing.sees {data:= #[35]}).rest}else zm q
theorem iF(q:Rd):q.thing.rest.size<=q.rest.size:=Ue (xV _) (Ue (xE _ _) (xV _))
theorem au(q:Rd):q.node.rest.size<=q.rest.size:=Ue (xV _) (Ue (xE _ _) (iF _))
theorem dU(r:Nat)(q:Rd)(w:World)(h2:zg w r q)(hs:q.rest.size<=maxLen):
  Calls prog 90 #[.pointer (some ⟨r,0,none⟩)] w λe w'=>e=.returned (zm q).val/\zg w' r q.thing/\w.grownBy w' (some r):=by
 have ha:r<w.heap.size:=qc h2;have h0: ¬w.heap.size=r:=by omega
 have s1:=xV q;have s2:=xE q.name {data:= #[58]};have S2:Hid ((q.name.must {data:= #[58]}).rest.size<=maxLen):=by show _<=_;omega
 clear s1 s2;go_enter func90,ntmps90
 go_wp2_with(first|(go_at_call 141;refine(vA r q _ (zD h2 _) hs).mono ?_;clear hs;rintro e w1 ⟨rfl,h7,h6⟩)|(go_at_call 105;refine(iW r q.name {data:= #[58]} _ h7).mono ?_;rintro e w2 ⟨rfl,h8,h5⟩)|(go_at_call 141;refine(vA r _ _ h8 S2.out).mono ?_;rintro e w3 ⟨rfl,h4,h3⟩;have h1:=qr (qr h6 h5) h3;have h9:=λo=>(zR h1).1 w.heap.size o (by simp) h0;have hb:=λo=>(zR h1).2 w.heap.size o (by simp) h0))
 refine bodyPost_ret (v:=(zm q).val) (by simp[results,results90,go_sem,Nd.val,zm,h9]) rfl ⟨rfl,?_,?_⟩
 ·exact x6 (x6 (x6 h4 (Ne.symm h0) _ _) (Ne.symm h0) _ _) (Ne.symm h0) _ _
 ·exact xz (xz (xz (qr (zN _ _) h1) (Uc _) _ _) (Uc _) _ _) (Uc _) _ _
theorem eA(q:Rd):(zm q).val=.agg #[.string (zm q).kind,.string (zm q).name,.string (zm q).rel]:=rfl
theorem l7(r:Nat)(q:Rd)(w:World)(h6:zg w r q)(hs:q.rest.size<=maxLen):
  Calls prog 88 #[.pointer (some ⟨r,0,none⟩)] w λe w'=>e=.returned (jD q).val/\zg w' r q.node/\w.grownBy w' (some r):=by
 have hg:r<w.heap.size:=qc h6;have h0: ¬w.heap.size=r:=by omega
 have s1:=iF q;have s2:=xE q.thing {data:= #[35]};have S2:Hid ((q.thing.must {data:= #[35]}).rest.size<=maxLen):=by show _<=_;omega
 have HT:Hid ((jD q)=⟨(zm q).kind,(zm q).name,zk (q.thing.must {data:= #[35]}).rest⟩):=rfl;have h3:=λw h=>dU r q w h hs;rw[eA]at h3;generalize (zm q).kind=tk at *;generalize (zm q).name=tn at *;generalize (zm q).rel=tr at *;clear s1 s2 hs;go_enter func88,ntmps88
 go_wp2_with(first|(go_at_call 90;refine(h3 _ (zD h6 _)).mono ?_;clear h3;rintro e w1 ⟨rfl,ha,h5⟩;have hk:w.heap.size<w1.heap.size:=(by have:=h5.size;simp at this;omega);have h1: ¬w1.heap.size=r:=(by omega);have he: ¬w1.heap.size=w.heap.size:=(by omega);have hj: ¬w.heap.size=w1.heap.size:=(by omega))|(go_at_call 105;refine(iW r q.thing {data:= #[35]} _ (zD ha _)).mono ?_;rintro e w2 ⟨rfl,h8,h7⟩)|(go_at_call 141;refine(vA r _ _ h8 S2.out).mono ?_;rintro e w3 ⟨rfl,hb,h9⟩;have h4:=qr h7 h9;have hd:=λo=>(zR h4).1 w1.heap.size o (by simp) h1;have hi:=λo=>(zR h4).2 w1.heap.size o (by simp) h1;have h2:=qr (qr h5 (zN _ _)) h4;have hc:=λo=>(zR h2).1 w.heap.size o (by simp) h0;have hf:=λo=>(zR h2).2 w.heap.size o (by simp) h0))
 refine bodyPost_ret (v:=(jD q).val) (by rw[HT.out];simp[results,results88,go_sem,Nd.val,hc]) rfl ⟨rfl,?_,?_⟩
 ·have hx:=Ne.symm h0
  have hy:=Ne.symm h1;exact x6 (x6 (x6 (x6 hb hy _ _) hx _ _) hx _ _) hx _ _
 ·exact xz (xz (xz (xz (qr (zN _ _) h2) (by omega) _ _) (Uc _) _ _) (Uc _) _ _) (Uc _) _ _
theorem nG(r:Nat)(q:Rd)(w:World)(hb:zg w r q)(hs:q.rest.size<=maxLen):
  Calls prog 153 #[.pointer (some ⟨r,0,none⟩)] w λe w'=>e=.returned (yk q).val/\zg w' r q.subject/\w.grownBy w' (some r):=by
 have hl:r<w.heap.size:=qc hb;have h3: ¬w.heap.size=r:=by omega
 have s1:=iF q;have s2:=yj q.thing {data:= #[35]};have S2:Hid ((q.thing.sees {data:= #[35]}).rest.size<=maxLen):=by show _<=_;omega
 have h5:=λw h=>dU r q w h hs;have h0:=λw h=>vz r q.thing {data:= #[35]} w h;clear s1 s2 hs;cases hp:qP q.thing.rest {data:= #[35]}
 ·have HT:Hid (yk q=zm q/\q.subject=q.thing):=by
   unfold yk Rd.subject;rw[hp];exact⟨rfl,rfl⟩
  have HQ:Hid (q.thing.sees {data:= #[35]}=q.thing):=by
   show _=_
   unfold Rd.sees;rw[hp];rfl
  rw[hp]at h0;rw[eA]at h5;have HV:Hid ((zm q).val=.agg #[.string (zm q).kind,.string (zm q).name,.string (zm q).rel]):=rfl;generalize (zm q).kind=tk at *;generalize (zm q).name=tn at *;generalize (zm q).rel=tr at *;go_enter func153,ntmps153
  go_wp2_with(first|(go_at_call 90;refine(h5 _ (zD hb _)).mono ?_;clear h5;rintro e w1 ⟨rfl,h9,h6⟩;have hk:w.heap.size<w1.heap.size:=(by have:=h6.size;simp at this;omega);have h4: ¬w1.heap.size=r:=(by omega);have hd: ¬w1.heap.size=w.heap.size:=(by omega);have hj: ¬w.heap.size=w1.heap.size:=(by omega))|(go_at_call 89;refine(h0 _ (zD h9 _)).mono ?_;rintro e w2 ⟨rfl,h7,h8⟩;have h2:=h8;have hc:=λo=>(zR h2).1 w1.heap.size o (by simp) h4;have hi:=λo=>(zR h2).2 w1.heap.size o (by simp) h4;have h1:=qr (qr h6 (zN _ _)) h2;have ha:=λo=>(zR h1).1 w.heap.size o (by simp) h3;have hf:=λo=>(zR h1).2 w.heap.size o (by simp) h3))
  refine bodyPost_ret (v:=(yk q).val) (by rw[HT.out.1,HV.out];simp[results,results153,go_sem,ha]) rfl ⟨rfl,?_,?_⟩
  ·have hx:=Ne.symm h3
   rw[HT.out.2];rw[HQ.out]at h7;exact x6 (x6 (x6 h7 hx _ _) hx _ _) hx _ _
  ·exact xz (xz (xz (qr (zN _ _) h1) (Uc _) _ _) (Uc _) _ _) (Uc _) _ _
 ·have HT:Hid ((yk q)=⟨(zm q).kind,(zm q).name,zk (q.thing.sees {data:= #[35]}).rest⟩/\q.subject=(q.thing.sees {data:= #[35]}).name):=by
   unfold yk Rd.subject;rw[hp];exact⟨rfl,rfl⟩
  rw[hp]at h0;rw[eA]at h5;generalize (zm q).kind=tk at *;generalize (zm q).name=tn at *;generalize (zm q).rel=tr at *;go_enter func153,ntmps153
  go_wp2_with(first|(go_at_call 90;refine(h5 _ (zD hb _)).mono ?_;clear h5;rintro e w1 ⟨rfl,h9,h6⟩;have hk:w.heap.size<w1.heap.size:=(by have:=h6.size;simp at this;omega);have h4: ¬w1.heap.size=r:=(by omega);have hd: ¬w1.heap.size=w.heap.size:=(by omega);have hj: ¬w.heap.size=w1.heap.size:=(by omega))|(go_at_call 89;refine(h0 _ (zD h9 _)).mono ?_;rintro e w2 ⟨rfl,h7,h8⟩)|(go_at_call 141;refine(vA r _ _ h7 S2.out).mono ?_;rintro e w3 ⟨rfl,hg,he⟩;have h2:=qr h8 he;have hc:=λo=>(zR h2).1 w1.heap.size o (by simp) h4;have hi:=λo=>(zR h2).2 w1.heap.size o (by simp) h4;have h1:=qr (qr h6 (zN _ _)) h2;have ha:=λo=>(zR h1).1 w.heap.size o (by simp) h3;have hf:=λo=>(zR h1).2 w.heap.size o (by simp) h3))
  refine bodyPost_ret (v:=(yk q).val) (by rw[HT.out.1];simp[results,results153,go_sem,Nd.val,ha]) rfl ⟨rfl,?_,?_⟩
  ·have hx:=Ne.symm h3
   have hy:=Ne.symm h4;rw[HT.out.2];exact x6 (x6 (x6 (x6 hg hy _ _) hx _ _) hx _ _) hx _ _
  ·exact xz (xz (xz (xz (qr (zN _ _) h1) (by omega) _ _) (Uc _) _ _) (Uc _) _ _) (Uc _) _ _
def uR(s:BA):Bool:=s.toList==[116,104,105,115]
def Rd.relation(q:Rd):Rd:=if uR (zk q.rest)then q.name.fail else q.name
theorem jS(q:Rd):q.relation.rest.size<=q.rest.size:=by
 unfold Rd.relation;split
 ·exact Um _
 ·exact xV q
theorem pz(r:Nat)(q:Rd)(w:World)(h4:zg w r q)(hs:q.rest.size<=maxLen):
  Calls prog 159 #[.pointer (some ⟨r,0,none⟩)] w λe w'=>e=.returned (.string (zk q.rest))/\zg w' r q.relation/\w.grownBy w' (some r):=by
 have h1:=vA r q w h4 hs;unfold Rd.relation uR;generalize zk q.rest=nm at *;cases ht:(nm.toList==[116,104,105,115])
 ·go_enter func159,ntmps159
  go_wp2_with(go_at_call 141;refine h1.mono ?_;rintro e w1 ⟨rfl,h2,h0⟩)
  go_ret;exact⟨rfl,h2,h0⟩
 ·go_enter func159,ntmps159
  go_wp2_with(first|(go_at_call 141;refine h1.mono ?_;clear h1;rintro e w1 ⟨rfl,h2,h0⟩)|(go_at_call 160;refine(iV r _ _ h2).mono ?_;rintro e w2 ⟨rfl,h5,h3⟩))
  go_ret;exact⟨rfl,h5,qr h0 h3⟩
def Rd.head(q:Rd):Rd:=(q.name.must {data:= #[35]}).relation
def qU(q:Rd):BA:=zk q.rest
def zh(q:Rd):BA:=zk (q.name.must {data:= #[35]}).rest
theorem YS(q:Rd):q.head.rest.size<=q.rest.size:=Ue (jS _) (Ue (xE _ _) (xV _))
theorem Xm(r:Nat)(q:Rd)(w:World)(h2:zg w r q)(hs:q.rest.size<=maxLen):
  Calls prog 104 #[.pointer (some ⟨r,0,none⟩)] w λe w'=>e=.returned (.agg #[.string (qU q),.string (zh q)])/\zg w' r q.head/\w.grownBy w' (some r):=by
 have ha:r<w.heap.size:=qc h2;have h0: ¬w.heap.size=r:=by omega
 have s1:=xV q;have s2:=xE q.name {data:= #[35]};have S2:Hid ((q.name.must {data:= #[35]}).rest.size<=maxLen):=by show _<=_;omega
 clear s1 s2;go_enter func104,ntmps104
 go_wp2_with(first|(go_at_call 141;refine(vA r q _ (zD h2 _) hs).mono ?_;clear hs;rintro e w1 ⟨rfl,h7,h6⟩)|(go_at_call 105;refine(iW r q.name {data:= #[35]} _ h7).mono ?_;rintro e w2 ⟨rfl,h8,h5⟩)|(go_at_call 159;refine(pz r _ _ h8 S2.out).mono ?_;rintro e w3 ⟨rfl,h4,h3⟩;have h1:=qr (qr h6 h5) h3;have h9:=λo=>(zR h1).1 w.heap.size o (by simp) h0;have hb:=λo=>(zR h1).2 w.heap.size o (by simp) h0))
 refine bodyPost_ret (v:=.agg #[.string (qU q),.string (zh q)]) (by simp[results,results104,go_sem,qU,zh,h9]) rfl ⟨rfl,?_,?_⟩
 ·exact x6 (x6 h4 (Ne.symm h0) _ _) (Ne.symm h0) _ _
 ·exact xz (xz (qr (zN _ _) h1) (Uc _) _ _) (Uc _) _ _
variable{n:Nat}
theorem pC{a l:Int}{r:List UInt8}(h:ze n a l r≠0):n<=r.length/\zA (r.take n)=true/\zF l (xR a (r.take n))=false/\ze n a l r=n+1:=by
 unfold ze at h ⊢;by_cases h1:r.length<n
 ·rw[if_pos h1]at h;exact absurd rfl h
 rw[if_neg h1]at h ⊢;by_cases h2:zA (r.take n)=false
 ·rw[if_pos h2]at h;exact absurd rfl h
 rw[if_neg h2]at h ⊢;by_cases h3:zF l (xR a (r.take n))=true
 ·rw[if_pos h3]at h;exact absurd rfl h
 rw[if_neg h3];exact⟨by omega,by simpa using h2,by simpa using h3,rfl⟩
theorem av{a l:Int}{r r':List UInt8}(h:ze n a l r≠0)(hl:n<=r'.length)(ht:r'.take n=r.take n):ze n a l r'=n+1:=by
 obtain⟨-,h2,h3,-⟩:=pC h;unfold ze;rw[if_neg (by omega),ht,if_neg (by rw[h2];simp),if_neg (by rw[h3];simp)]
theorem gT(c:UInt8)(r:List UInt8)(h:zd (c::r)≠0):
  (zd (c::r)=1/\(c.toNat:Int)<128/\ ∀r',zd (c::r')=1)\/
  ∃n,1<=n/\zd (c::r)=n+1/\n<=r.length/\zA (r.take n)=true/\ ∀r':List UInt8,n<=r'.length->r'.take n=r.take n->zd (c::r')=n+1:=by
 rw[yv]at h ⊢;by_cases h1:(c.toNat:Int)<128
 ·left
  rw[if_pos h1];exact⟨rfl,h1,λr'=>by rw[yv,if_pos h1]⟩
 right
 rw[if_neg h1]at h ⊢;by_cases h2:194<=(c.toNat:Int)/\(c.toNat:Int)<224
 ·rw[if_pos h2]at h ⊢
  obtain⟨q1,q2,-,q4⟩:=pC h;exact⟨1,by omega,q4,q1,q2,λr' hl ht=>by rw[yv,if_neg h1,if_pos h2];exact av h hl ht⟩
 rw[if_neg h2]at h ⊢;by_cases h3:224<=(c.toNat:Int)/\(c.toNat:Int)<240
 ·rw[if_pos h3]at h ⊢
  obtain⟨q1,q2,-,q4⟩:=pC h;exact⟨2,by omega,q4,q1,q2,λr' hl ht=>by rw[yv,if_neg h1,if_neg h2,if_pos h3];exact av h hl ht⟩
 rw[if_neg h3]at h ⊢;by_cases h4:240<=(c.toNat:Int)/\(c.toNat:Int)<245
 ·rw[if_pos h4]at h ⊢
  obtain⟨q1,q2,-,q4⟩:=pC h;exact⟨3,by omega,q4,q1,q2,λr' hl ht=>by rw[yv,if_neg h1,if_neg h2,if_neg h3,if_pos h4];exact av h hl ht⟩
 rw[if_neg h4]at h;exact absurd rfl h
theorem Qc(c:UInt8)(r b:List UInt8)(h:zd (c::r)≠0):zd (c::(r++b))=zd (c::r):=by
 rcases gT c r h with⟨h1,-,h2⟩|⟨n,-,h1,hl,-,h2⟩
 ·rw[h1,h2]
 ·rw[h1];exact h2 _ (by simp;omega) (List.take_append_of_le_length hl)
theorem YT(c:UInt8)(r:List UInt8)(n:Nat)(h:zd (c::r)≠0)(hn:zd (c::r)<=n+1):zd (c::r.take n)=zd (c::r):=by
 rcases gT c r h with⟨h1,-,h2⟩|⟨m,-,h1,hl,-,h2⟩
 ·rw[h1,h2]
 ·rw[h1];exact h2 _ (by simp;omega) (by rw[List.take_take,Nat.min_eq_left (by omega)])
def jE(l:List UInt8):Prop:= ∀x∈l,yf x.toNat=false
variable{l:List UInt8}
theorem Qd(h1:jE (l.take n))(h2:jE (l.drop n)):jE l:=by
 intro x hx;rw[←O6 n l]at hx;rcases OS.1 hx with h|h
 ·exact h1 x h
 ·exact h2 x h
theorem nH(h:zA l=true):jE l:=by
 intro x hx;unfold zA at h;rw[List.all_eq_true]at h;have:=h x hx;simp at this;exact dt _ (by omega)
theorem Qe(c:UInt8)(r:List UInt8)(h:zd (c::r)≠0)(hb:zv c.toNat=false):jE ((c::r).take (zd (c::r))):=by
 have hc:yf c.toNat=false:=by
  unfold zv at hb;simp at hb;exact hb.1.1
 rcases gT c r h with⟨h1,-,-⟩|⟨n,-,h1,-,hf,-⟩
 ·rw[h1];intro x hx;simp at hx;rw[hx];exact hc
 ·rw[h1]
  intro x hx;rw[List.take_succ_cons]at hx;rcases OT.1 hx with h|h
  ·rw[h];exact hc
  ·exact nH hf x h
theorem eB: ∀(r:Nat) (l:List UInt8),yw r l=true->jE l:=by
 intro r
 induction r with
 |zero=>intro l h;simp[yw]at h
 |succ r ih=>
  intro l h;cases l with
  |nil=>intro x hx;cases hx
  |cons c l=>
   by_cases hg:zd (c::l)=0\/zv c.toNat=true
   ·rw[dh r c l hg]at h;cases h
   ·have h0:zd (c::l)≠0:=λe=>hg (Or.inl e)
    have hb:zv c.toNat=false:=by
     cases e:zv c.toNat
     ·rfl
     ·exact absurd (Or.inr e) hg
    rw[iw r c l h0 hb]at h;exact Qd (Qe c l h0 hb) (ih _ h)
def r9(b:List UInt8):Prop:=b=[]\/ ∃c r,b=c::r/\yf c.toNat=true
variable{c:UInt8}
theorem eC(h:yf c.toNat=true):zv c.toNat=true:=by unfold zv;rw[h];rfl
theorem Xn: ∀(r:Nat) (a b:List UInt8),r9 b->yw (r+1) a=true->nl r (a++b)=some a.length:=by
 intro r
 induction r with
 |zero=>
  intro a b hb h;cases a with
  |nil=>
   rcases hb with rfl|⟨c,r,rfl,hm⟩
   ·rfl
   ·exact ar _ _ _ (Or.inr (eC hm))
  |cons c l=>
   by_cases hg:zd (c::l)=0\/zv c.toNat=true
   ·rw[dh _ c l hg]at h;cases h
   ·rw[iw _ c l (λe=>hg (Or.inl e)) (by cases e:zv c.toNat;rfl;exact absurd (Or.inr e) hg)]at h
    simp[yw]at h
 |succ r ih=>
  intro a b hb h;cases a with
  |nil=>
   rcases hb with rfl|⟨c,r,rfl,hm⟩
   ·rfl
   ·exact ar _ _ _ (Or.inr (eC hm))
  |cons c l=>
   by_cases hg:zd (c::l)=0\/zv c.toNat=true
   ·rw[dh _ c l hg]at h;cases h
   ·have h0:zd (c::l)≠0:=λe=>hg (Or.inl e)
    have h2:zv c.toNat=false:=by
     cases e:zv c.toNat
     ·rfl
     ·exact absurd (Or.inr e) hg
    rw[iw _ c l h0 h2]at h;have hs:=Qc c l b h0;have h1:=gH (c::l);rw[List.cons_append,rZ _ _ _ (by rw[hs];exact hg),hs]
    rw[←List.cons_append,List.drop_append_of_le_length h1,ih _ b hb h];rw[Option.map_some,List.length_drop];exact congrArg some (Nat.sub_add_cancel h1)
theorem Xo: ∀(r:Nat) (l:List UInt8) (n:Nat),r<=8->nl r l=some n->(n=0->r<8)->yw (r+1) (l.take n)=true/\n<=l.length:=by
 intro r
 induction r with
 |zero=>
  intro l n h2 h h0;cases l with
  |nil=>
   have:n=0:=by rw[ey]at h;injection h with h;exact h.symm
   subst this;exact⟨rfl,Uc _⟩
  |cons c l=>
   by_cases hg:zd (c::l)=0\/zv c.toNat=true
   ·rw[ar _ _ _ hg]at h
    injection h with h;subst h;exact⟨rfl,Um _⟩
   ·rw[QT _ _ hg]at h;cases h
 |succ r ih=>
  intro l n h2 h h0;cases l with
  |nil=>
   have:n=0:=by rw[ey]at h;injection h with h;exact h.symm
   subst this;exact⟨by simp[yw];exact h0 rfl,Uc _⟩
  |cons c l=>
   by_cases hg:zd (c::l)=0\/zv c.toNat=true
   ·rw[ar _ _ _ hg]at h
    injection h with h;subst h;exact⟨by simp[yw];exact h0 rfl,Um _⟩
   ·have hz:zd (c::l)≠0:=λe=>hg (Or.inl e)
    have h1:zv c.toNat=false:=by
     cases e:zv c.toNat
     ·rfl
     ·exact absurd (Or.inr e) hg
    rw[rZ _ _ _ hg,Un]at h;obtain⟨m,hm,rfl⟩:=h;have h3:=gH (c::l);obtain⟨k,hk⟩: ∃k,zd (c::l)=k+1:=⟨zd (c::l)-1,by omega⟩
    rw[hk]at hm h3 ⊢;have hi:=ih _ m (by omega) hm (λe=>by omega)
    rw[List.length_drop]at hi;refine⟨?_,by have:=hi.2;omega⟩
    have ht:zd (c::l.take (m+k))=k+1:=by rw[YT c l (m+k) hz (by omega),hk]
    rw[show m+(k+1)=(m+k)+1 by omega,List.take_succ_cons,iw _ _ _ (by rw[ht];omega) h1,ht]
    have e:(c::l.take (m+k)).drop (k+1)=((c::l).drop (k+1)).take m:=by
     rw[List.drop_succ_cons,List.drop_succ_cons,List.drop_take,Nat.add_sub_cancel]
    rw[e];exact hi.1
def rd0(s:BA):Rd:=⟨s,0,false⟩
def sd(s:BA):Rd:=((rd0 s).node.must {data:= #[64]}).subject
def xG(s:BA):Bool:=(sd s).ended
def qM(s:BA):Nd:=jD (rd0 s)
def zL(s:BA):Nd:=yk ((rd0 s).node.must {data:= #[64]})
def pD(s:BA):Value:=
 if xG s then .agg #[.string (qM s).kind,.string (qM s).name,.string (qM s).rel,.string (zL s).kind,.string (zL s).name,.string (zL s).rel]
 else .agg #[.string {data:= #[]},.string {data:= #[]},.string {data:= #[]},.string {data:= #[]},.string {data:= #[]},.string {data:= #[]}]
theorem l8(w:World)(s:BA):zg (w.alloc (.cells #[.string s,.int .i64 0,.bool false] 141)) w.heap.size (rd0 s):=by
 show(w.heap.push _)[w.heap.size]?=_
 simp[rd0]
theorem yh{w0:World}(h:Below B w0 w)(hk:w.grownBy w' (some r))(hB:B<=w.heap.size)(hr:B<=r):Below B w0 w':=
 h.grown hk hB (λk e=>by cases e;exact hr)
theorem od(s:BA)(w:World)(hs:s.size<=maxLen):
  Calls prog 98 #[.string s] w λe w'=>e=.returned (.tuple #[pD s,.bool (xG s)])/\Below w.heap.size w w':=by
 have s1:=au (rd0 s);have s2:=xE (rd0 s).node {data:= #[64]};have S0:Hid ((rd0 s).rest.size<=maxLen):=hs;have S2:Hid (((rd0 s).node.must {data:= #[64]}).rest.size<=maxLen):=by show _<=_;have:(rd0 s).rest.size=s.size:=rfl;omega
 clear s1 s2;have HV:Hid (pD s=if xG s then .agg #[.string (qM s).kind,.string (qM s).name,.string (qM s).rel,.string (zL s).kind,.string (zL s).name,.string (zL s).rel]else .agg #[.string {data:= #[]},.string {data:= #[]},.string {data:= #[]},.string {data:= #[]},.string {data:= #[]},.string {data:= #[]}]):=rfl
 have he: ∀r w,zg w r ((rd0 s).node.must {data:= #[64]})->Calls prog 153 #[.pointer (some ⟨r,0,none⟩)] w λe w'=>e=.returned (.agg #[.string (zL s).kind,.string (zL s).name,.string (zL s).rel])/\zg w' r (sd s)/\w.grownBy w' (some r):=λr w h=>nG r ((rd0 s).node.must {data:= #[64]}) w h S2.out;have h5: ∀r w,zg w r (rd0 s)->Calls prog 88 #[.pointer (some ⟨r,0,none⟩)] w λe w'=>e=.returned (.agg #[.string (qM s).kind,.string (qM s).name,.string (qM s).rel])/\zg w' r (rd0 s).node/\w.grownBy w' (some r):=λr w h=>l7 r (rd0 s) w h S0.out;have h2:=λr w h=>ao r (sd s) w h
 change∀r w,zg w r (sd s)->Calls prog 91 #[.pointer (some ⟨r,0,none⟩)] w λe w'=>e=.returned (.bool (xG s))/\w'=w at h2
 generalize (qM s).kind=a1 at *;generalize (qM s).name=a2 at *;generalize (qM s).rel=a3 at *;generalize (zL s).kind=b1 at *;generalize (zL s).name=b2 at *;generalize (zL s).rel=b3 at *;generalize xG s=ok at *;have h3:=λo=>l8 (w.alloc o) s;simp only[World.size_alloc]at h3;cases ok
 all_goals
  go_enter func98,ntmps98
  go_wp2_with(first|(go_at_call 88;refine(h5 _ _ (h3 _)).mono ?_;clear h5;rintro e w1 ⟨rfl,ha,h1⟩;have hl:w.heap.size+2<=w1.heap.size:=(by have:=h1.size;simp at this;omega))|(go_at_call 105;refine(iW _ _ {data:= #[64]} _ (zD ha _)).mono ?_;rintro e w2 ⟨rfl,h7,h6⟩)|(go_at_call 153;refine(he _ _ h7).mono ?_;rintro e w3 ⟨rfl,hc,h8⟩;have h0:=qr h6 h8;have hj:w1.heap.size<w3.heap.size:=(by have:=h0.size;simp at this;omega);have h9:w.heap.size<w3.heap.size:=(by omega);have hk: ¬w.heap.size=w3.heap.size:=(by omega);have hf: ¬w1.heap.size=w3.heap.size:=(by omega);have hg:=λo=>(zR h0).1 w1.heap.size o (by simp) (by omega);have h4:=qr (qr h1 (zN _ _)) h0;have hd:=λo=>(zR h4).1 w.heap.size o (by simp;omega) (by omega);have hi:=λo=>(zR h4).2 w.heap.size o (by simp;omega) (by omega))|(go_at_call 91;have hx:=h2 _ _ (zD hc (.cells #[.string b1,.string b2,.string b3] 75));refine hx.mono ?_;rintro e w4 ⟨rfl,rfl⟩))
  have hb:Below w.heap.size w w3:=yh ((yh (((Ou w.heap.size w).alloc (Uc _) _).alloc (by simp) _) h1 (by simp;omega) (by omega)).alloc (by omega) _) h0 (by simp;omega) (by omega)
  refine bodyPost_ret (v:=.tuple #[pD s,.bool _]) (by rw[HV.out];simp[results,results98,go_sem,hd,h9]) rfl ⟨rfl,?_⟩
  refine Below.alloc ?_ (by simp;omega) _
  refine Below.setCell ?_ (by simp) _
  refine Below.setCell ?_ (by simp) _
  refine Below.setCell ?_ (by simp) _
  refine Below.setCell ?_ (by simp) _
  refine Below.setCell ?_ (by simp) _
  refine Below.setCell ?_ (by simp) _
  exact hb
def mk(l:List UInt8):BA:=⟨l.toArray⟩
theorem qA(l:List UInt8):(mk l).data.toList=l:=rfl
theorem vh(h:a.data.toList=b.data.toList):a=b:=ByteArray.ext (Array.ext' h)
theorem yB(h:a.data.toList=l):a=mk l:=vh (by rw[h,qA])
theorem iX{a:List UInt8}(h:qx a=true):a≠[]:=by
 intro e;subst e;simp[qx,yw]at h
theorem qJ{a:List UInt8}(h:qx a=true):jE a:=eB 9 a h
theorem jt(q:Rd)(a b:List UInt8)(h:q.rest.data.toList=a++b)(ha:qx a=true)(hb:r9 b):zk q.rest=mk a/\q.name={q with rest:=mk b}:=by
 have hn:nl 8 q.rest.data.toList=some a.length:=by rw[h];exact Xn 8 a b hb ha
 have hp:a.length≠0:=λe=>iX ha (Oy e);obtain⟨m,hm⟩: ∃m,a.length=m+1:=⟨a.length-1,by omega⟩
 rw[hm]at hn
 constructor
 ·unfold zk;rw[hn];dsimp only
  exact yB (by rw[yD,h,←hm,List.take_left])
 ·unfold Rd.name;rw[hn];dsimp only
  have e:q.rest.extract (m+1) q.rest.size=mk b:=yB (by rw[xO,h,←hm,List.drop_left])
  rw[e]
theorem vB(q:Rd):q.name=q.fail\/ ∃a b,q.rest.data.toList=a++b/\qx a=true/\zk q.rest=mk a/\q.name={q with rest:=mk b}:=by
 unfold Rd.name zk;cases hn:nl 8 q.rest.data.toList with
 |none=>left;rfl
 |some n=>
  cases n with
  |zero=>left;rfl
  |succ n=>
   right
   have hk:=Xo 8 _ _ (Uc _) hn (λe=>by omega)
   refine⟨q.rest.data.toList.take (n+1),q.rest.data.toList.drop (n+1),(O6 _ _).symm,hk.1,?_,?_⟩
   ·exact yB (yD _ _)
   ·dsimp only
    have e:q.rest.extract (n+1) q.rest.size=mk (q.rest.data.toList.drop (n+1)):=yB (xO _ _);rw[e]
theorem aP(b:List UInt8)(c:UInt8):qP (mk b) {data:= #[c]}=true↔ ∃r,b=c::r:=by
 unfold qP;rw[Lib.toList_data,Lib.toList_data,yD,qA];have h0:(mk b).size=b.length:=by simp[mk,ByteArray.size]
 rw[h0];cases b with
 |nil=>simp[ByteArray.size]
 |cons x r=>
  simp only[Bool.and_eq_true,decide_eq_true_eq,beq_iff_eq];show(1<=(x::r).length/\(x::r).take 1=[c])↔_
  simp
theorem pE(q:Rd)(c:UInt8)(r:List UInt8)(h:q.rest.data.toList=c::r):qP q.rest {data:= #[c]}=true/\q.sees {data:= #[c]}={q with rest:=mk r}:=by
 have hq:q.rest=mk (c::r):=yB h;have hp:qP q.rest {data:= #[c]}=true:=by rw[hq];exact(aP _ _).2 ⟨r,rfl⟩
 refine⟨hp,?_⟩;unfold Rd.sees;rw[hp];have e:q.rest.extract 1 q.rest.size=mk r:=yB (by rw[xO,h];rfl)
 show{q with rest:=q.rest.extract 1 q.rest.size}=_
 rw[e]
theorem eD(q:Rd)(c:UInt8)(h: ¬ ∃r,q.rest.data.toList=c::r):qP q.rest {data:= #[c]}=false:=by
 cases hp:qP q.rest {data:= #[c]}
 ·rfl
 ·exfalso;apply h
  have hq:q.rest=mk q.rest.data.toList:=yB rfl;rw[hq]at hp;exact(aP _ _).1 hp
theorem ju(q:Rd)(c:UInt8)(r:List UInt8)(h:q.rest.data.toList=c::r):q.must {data:= #[c]}={q with rest:=mk r}:=by
 have:=pE q c r h;unfold Rd.must;rw[this.1,this.2];rfl
theorem se(q:Rd)(c:UInt8)(h: ¬ ∃r,q.rest.data.toList=c::r):q.must {data:= #[c]}=q.fail:=by
 unfold Rd.must;rw[eD q c h];rfl
theorem jF(q:Rd)(m:BA)(h:q.failed=true):(q.sees m).failed=true:=by unfold Rd.sees;split<;>exact h
theorem iG(q:Rd)(m:BA)(h:q.failed=true):(q.must m).failed=true:=by
 unfold Rd.must;split
 ·exact jF q m h
 ·rfl
theorem yS(q:Rd)(h:q.failed=true):q.name.failed=true:=by
 unfold Rd.name;split
 ·exact h
 ·rfl
theorem sf(q:Rd)(h:q.failed=true):q.thing.failed=true:=yS _ (iG _ _ (yS _ h))
theorem aw(q:Rd)(h:q.failed=true):q.subject.failed=true:=by
 unfold Rd.subject;split
 ·exact yS _ (jF _ _ (sf _ h))
 ·exact sf _ h
theorem QU(q:Rd)(h:q.failed=true):q.ended=false:=by unfold Rd.ended;rw[h];simp
theorem vj(q:Rd)(c:UInt8)(hm:yf c.toNat=true):
  (∃a r,q.rest.data.toList=a++c::r/\qx a=true/\zk q.rest=mk a/\q.name.must {data:= #[c]}={q with rest:=mk r})\/
  ((¬ ∃a r,q.rest.data.toList=a++c::r/\qx a=true)/\(q.name.must {data:= #[c]}).failed=true):=by
 by_cases h: ∃a r,q.rest.data.toList=a++c::r/\qx a=true
 ·left
  obtain⟨a,r,h1,h2⟩:=h;obtain⟨g1,g2⟩:=jt q a (c::r) h1 h2 (Or.inr ⟨c,r,rfl,hm⟩);refine⟨a,r,h1,h2,g1,?_⟩;rw[g2,ju {q with rest:=mk (c::r)} c r (qA _)]
 ·right
  refine⟨h,?_⟩;rcases vB q with e|⟨a,b,h1,h2,-,e⟩
  ·rw[e];exact iG _ _ rfl
  ·rw[e]
   by_cases hb: ∃r,b=c::r
   ·obtain⟨r,rfl⟩:=hb
    exact absurd ⟨a,r,h1,h2⟩ h
   ·rw[se {q with rest:=mk b} c (by rintro⟨r,hr⟩;exact hb ⟨r,hr⟩)];rfl
def zO:Option (List UInt8)->List UInt8
 |none=>[]
 |some x=>35::x
def iH:Option (List UInt8)->BA
 |none=>{data:= #[]}
 |some x=>mk x
structure TupD(l k n r k2 n2:List UInt8)(o:Option (List UInt8)):Prop where
 text:l=k++58::(n++35::(r++64::(k2++58::(n2++zO o))))
 hk:qx k=true
 hn:qx n=true
 hr:qx r=true
 hk2:qx k2=true
 hn2:qx n2=true
 ho: ∀x,o=some x->qx x=true
theorem m58:yf ((58:UInt8).toNat:Int)=true:=by decide
theorem m35:yf ((35:UInt8).toNat:Int)=true:=by decide
theorem m64:yf ((64:UInt8).toNat:Int)=true:=by decide
theorem Oh(a b:List UInt8)(c:UInt8)(hm:yf c.toNat=true)(ha:qx a=true):zk (mk (a++c::b))=mk a/\(Rd.mk (mk (a++c::b)) 0 false).name.must {data:= #[c]}=Rd.mk (mk b) 0 false:=by
 obtain⟨g1,g2⟩:=jt (Rd.mk (mk (a++c::b)) 0 false) a (c::b) rfl ha (Or.inr ⟨c,b,rfl,hm⟩);refine⟨g1,?_⟩;rw[g2];exact ju (Rd.mk (mk (c::b)) 0 false) c b rfl
theorem eE(a b:List UInt8)(hb:r9 b)(ha:qx a=true):zk (mk (a++b))=mk a/\(Rd.mk (mk (a++b)) 0 false).name=Rd.mk (mk b) 0 false:=
 jt (Rd.mk (mk (a++b)) 0 false) a b rfl ha hb
theorem gU(k n b:List UInt8)(hk:qx k=true)(hn:qx n=true)(hb:r9 b):
  zm (Rd.mk (mk (k++58::(n++b))) 0 false)=⟨mk k,mk n,{data:= #[]}⟩/\(Rd.mk (mk (k++58::(n++b))) 0 false).thing=Rd.mk (mk b) 0 false:=by
 obtain⟨a1,a2⟩:=Oh k (n++b) 58 m58 hk;obtain⟨b1,b2⟩:=eE n b hb hn
 constructor
 ·unfold zm;rw[a2];dsimp only;rw[a1,b1]
 ·unfold Rd.thing;rw[a2,b2]
theorem sg(k n r b:List UInt8)(hk:qx k=true)(hn:qx n=true)(hr:qx r=true)(hb:r9 b):
  jD (Rd.mk (mk (k++58::(n++35::(r++b)))) 0 false)=⟨mk k,mk n,mk r⟩/\(Rd.mk (mk (k++58::(n++35::(r++b)))) 0 false).node=Rd.mk (mk b) 0 false:=by
 obtain⟨a1,a2⟩:=gU k n (35::(r++b)) hk hn (Or.inr ⟨_,_,rfl,m35⟩);obtain⟨b1,b2⟩:=eE r b hb hr;have e:(Rd.mk (mk (35::(r++b))) 0 false).must {data:= #[35]}=Rd.mk (mk (r++b)) 0 false:=ju _ 35 _ rfl
 constructor
 ·unfold jD;rw[a1,a2,e];dsimp only;rw[b1]
 ·unfold Rd.node;rw[a2,e,b2]
theorem pF(s:BA)(k n r k2 n2:List UInt8)(o:Option (List UInt8))(d:TupD s.data.toList k n r k2 n2 o):
  xG s=true/\qM s=⟨mk k,mk n,mk r⟩/\zL s=⟨mk k2,mk n2,iH o⟩:=by
 obtain⟨ht,hk,hn,hr,h2,h3,ho⟩:=d;have hs:s=mk (k++58::(n++35::(r++64::(k2++58::(n2++zO o))))):=yB ht;obtain⟨a1,a2⟩:=sg k n r (64::(k2++58::(n2++zO o))) hk hn hr (Or.inr ⟨_,_,rfl,m64⟩);have e4:(rd0 s).node.must {data:= #[64]}=Rd.mk (mk (k2++58::(n2++zO o))) 0 false:=by
  unfold rd0;rw[hs,a2];exact ju (Rd.mk (mk (64::(k2++58::(n2++zO o)))) 0 false) 64 _ rfl
 have h0:qM s=⟨mk k,mk n,mk r⟩:=by unfold qM rd0;rw[hs,a1]
 unfold xG sd zL;rw[e4];cases o with
 |none=>
  obtain⟨b1,b2⟩:=gU k2 n2 (zO none) h2 h3 (Or.inl rfl);have hp:qP (mk (zO none)) {data:= #[35]}=false:=eD (Rd.mk (mk []) 0 false) 35 (by rintro⟨x,hx⟩;cases hx)
  unfold Rd.subject yk;rw[b2,b1];dsimp only;rw[hp];exact⟨rfl,h0,rfl⟩
 |some x=>
  obtain⟨b1,b2⟩:=gU k2 n2 (zO (some x)) h2 h3 (Or.inr ⟨_,_,rfl,m35⟩);obtain⟨hp,h4⟩:=pE (Rd.mk (mk (35::x)) 0 false) 35 x rfl;obtain⟨c1,c2⟩:=eE x [] (Or.inl rfl) (ho x rfl);rw[List.append_nil]at c1 c2;have h5:qP (mk (zO (some x))) {data:= #[35]}=true:=hp;have h1:(Rd.mk (mk (zO (some x))) 0 false).sees {data:= #[35]}=Rd.mk (mk x) 0 false:=h4;unfold Rd.subject yk;rw[b2,b1];dsimp only;rw[h5,h1,c2];refine⟨rfl,h0,?_⟩;simp only[if_true];rw[c1];rfl
theorem iY(s:BA)(h:xG s=true): ∃k n r k2 n2 o,TupD s.data.toList k n r k2 n2 o:=by
 unfold xG sd at h;have hf: ∀q:Rd,q.ended=true->q.failed=false:=by
  intro q hq;cases e:q.failed
  ·rfl
  ·rw[QU q e]at hq;cases hq
 have h1:=hf _ h;rcases vj (rd0 s) 58 m58 with⟨k,l1,t1,hk,-,e1⟩|⟨-,e1⟩
 case inr=>
  have hx:((rd0 s).node.must {data:= #[64]}).subject.failed=true:=aw _ (iG _ _ (show(rd0 s).node.failed=true from yS _ (iG _ _ (show(rd0 s).thing.failed=true from yS _ e1))));rw[hx]at h1;cases h1
 have w1:(rd0 s).thing=(Rd.mk (mk l1) 0 false).name:=by unfold Rd.thing;rw[e1];rfl
 rcases vj (Rd.mk (mk l1) 0 false) 35 m35 with⟨n,l2,t2,hn,-,e2⟩|⟨-,e2⟩
 case inr=>
  have hx:((rd0 s).node.must {data:= #[64]}).subject.failed=true:=aw _ (iG _ _ (show(rd0 s).node.failed=true from yS _ (by rw[w1];exact e2)))
  rw[hx]at h1;cases h1
 have w2:(rd0 s).node=(Rd.mk (mk l2) 0 false).name:=by unfold Rd.node;rw[w1,e2]
 rcases vj (Rd.mk (mk l2) 0 false) 64 m64 with⟨r,l3,t3,hr,-,e3⟩|⟨-,e3⟩
 case inr=>exact absurd h1 (by rw[aw _ (by rw[w2];exact e3)];simp)
 rw[w2,e3]at h;rcases vj (Rd.mk (mk l3) 0 false) 58 m58 with⟨k2,l4,t4,h3,-,e4⟩|⟨-,e4⟩
 case inr=>
  exfalso
  have:(Rd.mk (mk l3) 0 false).thing.failed=true:=yS _ e4;have h2:=hf _ h;unfold Rd.subject at h2;split at h2
  ·rw[yS _ (jF _ _ this)]at h2;cases h2
  ·rw[this]at h2;cases h2
 have w3:(Rd.mk (mk l3) 0 false).thing=(Rd.mk (mk l4) 0 false).name:=by unfold Rd.thing;rw[e4]
 have T: ∀x,s.data.toList=k++58::(n++35::(r++64::(k2++58::x)))↔l4=x:=by
  intro x;have q1:s.data.toList=k++58::l1:=t1;have q2:l1=n++35::l2:=t2;have q3:l2=r++64::l3:=t3;have q4:l3=k2++58::l4:=t4;rw[q1,q2,q3,q4];simp
 have h0: ∀(b:List UInt8),(Rd.mk (mk b) 0 false).ended=true->b=[]:=by
  intro b hb;unfold Rd.ended at hb;simp only[Bool.not_false,Bool.and_true,decide_eq_true_eq]at hb;exact Oy (by simpa[mk,ByteArray.size]using hb)
 rcases vB (Rd.mk (mk l4) 0 false)with e|⟨n2,b,t5,h4,-,e⟩
 ·exfalso
  have h2:=hf _ h;unfold Rd.subject at h2;rw[w3,e]at h2;split at h2
  ·rw[yS _ (jF _ _ rfl)]at h2;cases h2
  ·cases h2
 have e':(Rd.mk (mk l3) 0 false).thing=Rd.mk (mk b) 0 false:=by rw[w3,e]
 unfold Rd.subject at h;rw[e']at h;cases hp:qP (mk b) {data:= #[35]}
 ·dsimp only at h
  rw[hp]at h;have hb:=h0 b h;subst hb;exact⟨k,n,r,k2,n2,none,⟨(T _).2 t5,hk,hn,hr,h3,h4,λx hx=>by cases hx⟩⟩
 ·obtain⟨x,rfl⟩:=(aP b 35).1 hp
  dsimp only at h;rw[hp]at h;have h5:=(pE (Rd.mk (mk (35::x)) 0 false) 35 x rfl).2;simp only[if_true]at h;rw[h5]at h;rcases vB (Rd.mk (mk x) 0 false)with e6|⟨a,b',t6,ha,-,e6⟩
  ·have h2:=hf _ h
   dsimp only at h2;rw[e6]at h2;cases h2
  ·dsimp only at h
   rw[e6]at h;have hb:=h0 b' h;subst hb;have h6:x=a:=by have:x=a++[]:=t6;simpa using this
   have h7:qx x=true:=h6.symm▸ha;exact⟨k,n,r,k2,n2,some x,⟨(T _).2 t5,hk,hn,hr,h3,h4,λy hy=>by cases hy;exact h7⟩⟩
theorem jf(a b:List UInt8)(c:UInt8)(h: ∀x∈a,x≠c):ve (a++c::b) c.toNat=some a.length:=by
 have hn:ve a c.toNat=none:=by
  unfold ve;rw[List.findIdx?_eq_none_iff];intro x hx;have:=h x hx;rw[beq_eq_false_iff_ne];intro e;apply this;rw[Xk];omega
 rw[oY a c b _ hn];simp
theorem jG(s:BA)(a b:List UInt8)(c:UInt8)(h:s.data.toList=a++c::b)(hx: ∀x∈a,x≠c):qX s c.toNat=mk a/\qS s c.toNat=mk b/\yu s c.toNat=true:=by
 have hi:=jf a b c hx;unfold qX qS yu;rw[h,hi];refine⟨yB ?_,yB ?_,rfl⟩
 ·dsimp only;rw[yD,h,List.take_left]
 ·dsimp only;rw[xO,h];simp
theorem cL(s:BA)(c:UInt8)(h:yu s c.toNat=true):s.data.toList=(qX s c.toNat).data.toList++c::(qS s c.toNat).data.toList:=by
 unfold yu at h;obtain⟨i,hi⟩:=Option.isSome_iff_exists.1 h;have h0:=hi;unfold ve at h0;rw[List.findIdx?_eq_some_iff_getElem]at h0;obtain⟨hl,hc,-⟩:=h0;have h1:s.data.toList[i]=c:=by
  have h2:((s.data.toList[i].toNat:Nat):Int)=c.toNat:=eq_of_beq hc;rw[Xk];omega
 unfold qX qS;rw[hi];dsimp only;rw[yD,xO];have:=(O6 i s.data.toList).symm;rw[List.drop_eq_getElem_cons hl,h1]at this;exact this
theorem qZ{a:List UInt8}(h:jE a)(hc:yf c.toNat=true): ∀x∈a,x≠c:=by
 intro x hx e;subst e;rw[h x hx]at hc;cases hc
theorem dx(k n:List UInt8)(hk:qx k=true)(hn:qx n=true):zj (mk (k++58::n))=true:=by
 obtain⟨a1,a2,a3⟩:=jG (mk (k++58::n)) k n 58 rfl (qZ (qJ hk) m58);unfold zj zZ
 change qX (mk (k++58::n)) 58=_ at a1
 change qS (mk (k++58::n)) 58=_ at a2
 change yu (mk (k++58::n)) 58=_ at a3
 rw[a1,a2,a3,qA,qA,hk,hn];rfl
theorem iI(s:BA)(h:zj s=true): ∃k n,s.data.toList=k++58::n/\qx k=true/\qx n=true:=by
 unfold zj zZ at h;simp only[Bool.and_eq_true]at h;exact⟨_,_,cL s 58 h.1.1,h.1.2,h.2⟩
theorem cM(k n r:List UInt8)(hk:qx k=true)(hn:qx n=true)(hr:qx r=true):xt (mk (k++58::(n++35::r)))=true:=by
 have hx: ∀x∈k++58::n,x≠35:=by
  intro x hx;rcases OS.1 hx with h|h
  ·exact qZ (qJ hk) m35 x h
  ·rcases OT.1 h with h|h
   ·rw[h];decide
   ·exact qZ (qJ hn) m35 x h
 obtain⟨a1,a2,a3⟩:=jG (mk (k++58::(n++35::r))) (k++58::n) r 35 (by rw[qA];simp) hx
 unfold xt zZ
 change qX (mk (k++58::(n++35::r))) 35=_ at a1
 change qS (mk (k++58::(n++35::r))) 35=_ at a2
 change yu (mk (k++58::(n++35::r))) 35=_ at a3
 rw[a1,a2,a3,qA,dx k n hk hn,hr];rfl
theorem jH(s:BA)(h:xt s=true): ∃k n r,s.data.toList=k++58::(n++35::r)/\qx k=true/\qx n=true/\qx r=true:=by
 unfold xt zZ at h;simp only[Bool.and_eq_true]at h;obtain⟨k,n,t1,hk,hn⟩:=iI _ h.1.2;have t2:=cL s 35 h.1.1
 change s.data.toList=(qX s 35).data.toList++35::(qS s 35).data.toList at t2
 rw[t1]at t2;exact⟨k,n,_,by rw[t2];simp,hk,hn,h.2⟩
theorem k9(s:BA)(k n r k2 n2:List UInt8)(o:Option (List UInt8))(d:TupD s.data.toList k n r k2 n2 o):
  qX s 64=mk (k++58::(n++35::r))/\qS s 64=mk (k2++58::(n2++zO o))/\yu s 64=true:=by
 have hx: ∀x∈k++58::(n++35::r),x≠64:=by
  intro x hx;rcases OS.1 hx with h|h
  ·exact qZ (qJ d.hk) m64 x h
  ·rcases OT.1 h with h|h
   ·rw[h];decide
   ·rcases OS.1 h with h|h
    ·exact qZ (qJ d.hn) m64 x h
    ·rcases OT.1 h with h|h
     ·rw[h];decide
     ·exact qZ (qJ d.hr) m64 x h
 exact jG s (k++58::(n++35::r)) (k2++58::(n2++zO o)) 64 (by rw[d.text];simp) hx
theorem jv(s:BA):y8 s=xG s:=by
 rw[Bool.eq_iff_iff]
 constructor
 ·intro h
  unfold y8 at h;simp only[Bool.and_eq_true,Bool.or_eq_true]at h;obtain⟨k,n,r,t1,hk,hn,hr⟩:=jH _ h.1.2;have t2:=cL s 64 h.1.1
  change s.data.toList=(qX s 64).data.toList++64::(qS s 64).data.toList at t2
  rcases h.2 with h3|h3
  ·obtain⟨k2,n2,t3,h0,h1⟩:=iI _ h3
   exact(pF s k n r k2 n2 none ⟨by rw[t2,t1,t3];simp[zO],hk,hn,hr,h0,h1,λx hx=>by cases hx⟩).1
  ·obtain⟨k2,n2,r2,t3,h0,h1,h2⟩:=jH _ h3
   exact(pF s k n r k2 n2 (some r2) ⟨by rw[t2,t1,t3];simp[zO],hk,hn,hr,h0,h1,λx hx=>by cases hx;exact h2⟩).1
 ·intro h
  obtain⟨k,n,r,k2,n2,o,d⟩:=iY s h;obtain⟨a1,a2,a3⟩:=k9 s k n r k2 n2 o d;unfold y8;rw[a1,a2,a3,cM k n r d.hk d.hn d.hr];cases o with
  |none=>
   have:zj (mk (k2++58::(n2++zO none)))=true:=by
    show zj (mk (k2++58::(n2++[])))=true
    rw[List.append_nil];exact dx k2 n2 d.hk2 d.hn2
   rw[this];rfl
  |some x=>
   have:xt (mk (k2++58::(n2++zO (some x))))=true:=cM k2 n2 x d.hk2 d.hn2 (d.ho x rfl);rw[this];simp
def uS(s:BA):Bool:=qP (rd0 s).node.rest {data:= #[64]}
def jw(s:BA):Rd:=if uS s then((rd0 s).node.sees {data:= #[64]}).thing else(rd0 s).node
def zP(s:BA):Bool:=(jw s).ended
def yd(s:BA):Nd:=if uS s then zm ((rd0 s).node.sees {data:= #[64]})else⟨{data:= #[]},{data:= #[]},{data:= #[]}⟩
def cN(s:BA):Value:=
 if zP s then .agg #[.string (qM s).kind,.string (qM s).name,.string (qM s).rel,.string (yd s).kind,.string (yd s).name,.string (yd s).rel]
 else .agg #[.string {data:= #[]},.string {data:= #[]},.string {data:= #[]},.string {data:= #[]},.string {data:= #[]},.string {data:= #[]}]
theorem Rd.sees_no(q:Rd)(m:BA)(h:qP q.rest m=false):q.sees m=q:=by unfold Rd.sees;rw[h];rfl
theorem aQ(h:uS s=false):(rd0 s).node.sees {data:= #[64]}=jw s:=(Rd.sees_no _ _ h).trans (if_neg (λe=>by cases h.symm.trans e)).symm
theorem gV(h:uS s=true):jw s=((rd0 s).node.sees {data:= #[64]}).thing:=if_pos h
theorem l9(h:uS s=false):yd s=⟨{data:= #[]},{data:= #[]},{data:= #[]}⟩:=if_neg (λe=>by cases h.symm.trans e)
theorem mx(h:uS s=true):yd s=zm ((rd0 s).node.sees {data:= #[64]}):=if_pos h
theorem vC(s:BA)(w:World)(hs:s.size<=maxLen):
  Calls prog 45 #[.string s] w λe w'=>e=.returned (.tuple #[cN s,.bool (zP s)])/\Below w.heap.size w w':=by
 have s1:=au (rd0 s);have s2:=yj (rd0 s).node {data:= #[64]};have S0:Hid ((rd0 s).rest.size<=maxLen):=hs;have S2:Hid (((rd0 s).node.sees {data:= #[64]}).rest.size<=maxLen):=by show _<=_;have:(rd0 s).rest.size=s.size:=rfl;omega
 clear s1 s2;have HV:Hid (cN s=if zP s then .agg #[.string (qM s).kind,.string (qM s).name,.string (qM s).rel,.string (yd s).kind,.string (yd s).name,.string (yd s).rel]else .agg #[.string {data:= #[]},.string {data:= #[]},.string {data:= #[]},.string {data:= #[]},.string {data:= #[]},.string {data:= #[]}]):=rfl
 have h6: ∀r w,zg w r (rd0 s)->Calls prog 88 #[.pointer (some ⟨r,0,none⟩)] w λe w'=>e=.returned (.agg #[.string (qM s).kind,.string (qM s).name,.string (qM s).rel])/\zg w' r (rd0 s).node/\w.grownBy w' (some r):=λr w h=>l7 r (rd0 s) w h S0.out;have h0:=λr w h=>vz r (rd0 s).node {data:= #[64]} w h;have h9:=λr w h=>ao r (jw s) w h
 change∀r w,zg w r (jw s)->Calls prog 91 #[.pointer (some ⟨r,0,none⟩)] w λe w'=>e=.returned (.bool (zP s))/\w'=w at h9
 change∀r w,zg w r (rd0 s).node->Calls prog 89 #[.pointer (some ⟨r,0,none⟩),.string {data:= #[64]}] w λe w'=>e=.returned (.bool (uS s))/\zg w' r ((rd0 s).node.sees {data:= #[64]})/\w.grownBy w' (some r)at h0
 have hb:=λo=>l8 (w.alloc o) s;simp only[World.size_alloc]at hb;cases hh:uS s
 ·have HQ:Hid ((rd0 s).node.sees {data:= #[64]}=jw s):=aQ hh
  have h3:Hid (yd s=⟨{data:= #[]},{data:= #[]},{data:= #[]}⟩):=l9 hh;rw[hh,HQ.out]at h0;rw[h3.out]at HV;generalize (qM s).kind=a1 at *;generalize (qM s).name=a2 at *;generalize (qM s).rel=a3 at *;generalize zP s=ok at *;clear h3 hh HQ;cases ok
  all_goals
   go_enter func45,ntmps45
   go_wp2_with(first|(go_at_call 88;refine(h6 _ _ (hb _)).mono ?_;clear h6;rintro e w1 ⟨rfl,ha,h1⟩;have hj:w.heap.size+2<=w1.heap.size:=(by have:=h1.size;simp at this;omega))|(go_at_call 89;refine(h0 _ _ (zD ha _)).mono ?_;rintro e w2 ⟨rfl,h8,h2⟩;have he:w1.heap.size<w2.heap.size:=(by have:=h2.size;simp at this;omega);have hi:w.heap.size<w2.heap.size:=(by omega);have hf:=λo=>(zR h2).1 w1.heap.size o (by simp) (by omega);have h4:=qr (qr h1 (zN _ _)) h2;have h7:=λo=>(zR h4).1 w.heap.size o (by simp;omega) (by omega);have hk:=λo=>(zR h4).2 w.heap.size o (by simp;omega) (by omega))|(go_at_call 91;refine(h9 _ _ h8).mono ?_;rintro e w4 ⟨rfl,rfl⟩))
   have hc:Below w.heap.size w w4:=yh ((yh (((Ou w.heap.size w).alloc (Uc _) _).alloc (by simp) _) h1 (by simp;omega) (by omega)).alloc (by omega) _) h2 (by simp;omega) (by omega)
   refine bodyPost_ret (v:=.tuple #[cN s,.bool _]) (by rw[HV.out];simp[results,results45,go_sem,h7]) rfl ⟨rfl,?_⟩
   refine Below.setCell ?_ (by simp) _
   refine Below.setCell ?_ (by simp) _
   refine Below.setCell ?_ (by simp) _
   refine Below.setCell ?_ (by simp) _
   refine Below.setCell ?_ (by simp) _
   refine Below.setCell ?_ (by simp) _
   exact hc
 ·have HQ:Hid (jw s=((rd0 s).node.sees {data:= #[64]}).thing):=gV hh
  have h3:Hid (yd s=zm ((rd0 s).node.sees {data:= #[64]})):=mx hh;have hl: ∀r w,zg w r ((rd0 s).node.sees {data:= #[64]})->Calls prog 90 #[.pointer (some ⟨r,0,none⟩)] w λe w'=>e=.returned (.agg #[.string (yd s).kind,.string (yd s).name,.string (yd s).rel])/\zg w' r (jw s)/\w.grownBy w' (some r):=by
   intro r w h;rw[HQ.out,h3.out];exact dU r _ w h S2.out
  rw[hh]at h0;generalize (qM s).kind=a1 at *;generalize (qM s).name=a2 at *;generalize (qM s).rel=a3 at *;generalize (yd s).kind=b1 at *;generalize (yd s).name=b2 at *;generalize (yd s).rel=b3 at *;generalize zP s=ok at *;clear h3 hh HQ;cases ok
  all_goals
   go_enter func45,ntmps45
   go_wp2_with(first|(go_at_call 88;refine(h6 _ _ (hb _)).mono ?_;clear h6;rintro e w1 ⟨rfl,ha,h1⟩;have hj:w.heap.size+2<=w1.heap.size:=(by have:=h1.size;simp at this;omega))|(go_at_call 89;refine(h0 _ _ (zD ha _)).mono ?_;rintro e w2 ⟨rfl,h8,h2⟩)|(go_at_call 90;refine(hl _ _ h8).mono ?_;rintro e w3 ⟨rfl,hd,hg⟩;have h5:=qr h2 hg;have he:w1.heap.size<w3.heap.size:=(by have:=h5.size;simp at this;omega);have hi:w.heap.size<w3.heap.size:=(by omega);have hm: ¬w1.heap.size=w.heap.size:=(by omega);have hn: ¬w.heap.size=w1.heap.size:=(by omega);have hf:=λo=>(zR h5).1 w1.heap.size o (by simp) (by omega);have ho:=λo=>(zR h5).2 w1.heap.size o (by simp) (by omega);have h4:=qr (qr h1 (zN _ _)) h5;have h7:=λo=>(zR h4).1 w.heap.size o (by simp;omega) (by omega);have hk:=λo=>(zR h4).2 w.heap.size o (by simp;omega) (by omega))|(go_at_call 91;refine(h9 _ _ (x6 (x6 (x6 hd (by omega) _ _) (by omega) _ _) (by omega) _ _)).mono ?_;rintro e w4 ⟨rfl,hp⟩;subst w4))
   have hc:Below w.heap.size w w3:=yh ((yh (((Ou w.heap.size w).alloc (Uc _) _).alloc (by simp) _) h1 (by simp;omega) (by omega)).alloc (by omega) _) h5 (by simp;omega) (by omega)
   refine bodyPost_ret (v:=.tuple #[cN s,.bool _]) (by rw[HV.out];simp[results,results45,go_sem,h7]) rfl ⟨rfl,?_⟩
   refine Below.setCell ?_ (by simp) _
   refine Below.setCell ?_ (by simp) _
   refine Below.setCell ?_ (by simp) _
   refine Below.setCell ?_ (by simp) _
   refine Below.setCell ?_ (by simp) _
   refine Below.setCell ?_ (by simp) _
   refine Below.setCell ?_ (by show _<=_;simp;omega) _
   refine Below.setCell ?_ (by show _<=_;simp;omega) _
   refine Below.setCell ?_ (by show _<=_;simp;omega) _
   exact hc
theorem dV(a1 a2 a3 b1 b2 b3:BA)(w:World):
  Calls prog 46 #[.agg #[.string a1,.string a2,.string a3,.string b1,.string b2,.string b3]] w λe w'=>e=.returned (.bool (!((b1.toList==[]) && (b2.toList==[]) && (b3.toList==[]))))/\Below w.heap.size w w':=by
 go_enter func46,ntmps46;go_wp2
 all_goals go_ret
 all_goals refine⟨zo ?_,bl⟩
 all_goals simp[*]
