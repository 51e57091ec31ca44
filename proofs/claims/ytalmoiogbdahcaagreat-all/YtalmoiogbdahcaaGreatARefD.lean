import Derived.Test.YtalmoiogbdahcaaGreatARefA
import Derived.Lib.Strings
open Go.Proofs.Tryz
namespace Go.Proofs.YtalmoiogbdahcaaGreat
set_option maxRecDepth 100000
set_option maxHeartbeats 8000000
open Go.RowKit
theorem vS{W w1:World}(hb:Below W.heap.size W w1):(∀b o,b<W.heap.size->w1.cell? ⟨b,o,none⟩=W.cell? ⟨b,o,none⟩)/\(∀b o,b<W.heap.size->w1.frozen? ⟨b,o,none⟩=W.frozen? ⟨b,o,none⟩):=
 ⟨λb o h=>hb.cell (p:=⟨b,o,none⟩) h,λb o h=>hb.frozen (p:=⟨b,o,none⟩) h⟩
theorem cJ(s:BA)(h:s.size=0):s.toList.isEmpty=true:=by
 rw[Lib.toList_data,List.isEmpty_iff];exact Oy (by simpa using h)
theorem jb(s:BA)(h:0<s.size):s.toList.isEmpty=false:=by
 rw[Lib.toList_data,List.isEmpty_eq_false_iff];intro e;have h2:s.data.toList.length=0:=by rw[e];rfl
 have h3:s.data.toList.length=s.size:=by simp
 omega
theorem aK(s t:BA)(h:s=t):(s.toList==t.toList)=true:=by subst h;simp
theorem aL(s t:BA)(h: ¬s=t):(s.toList==t.toList)=false:=by
 rw[Lib.toList_data,Lib.toList_data];rw[beq_eq_false_iff_ne];intro e;exact h (ByteArray.ext (Array.ext' e))
structure Sc where
 d:Int
 a:Int
 o:Bool
 n:Bool
def Sc.step(q:Sc)(i c:Int):Sc:=if c=40 then{q with d:=q.d+1}else if c=41 then{q with d:=q.d-1}else if q.d=0/\c=124 then{q with o:=true,a:=i}else if q.d=0/\c=38 then{q with n:=true,a:=i}else q
def zI(l:List UInt8):Nat->Sc
 |0=>⟨0,-1,false,false⟩
 |k+1=>(zI l k).step k (l.getD k 0).toNat
def iy(l:List UInt8):Nat->Bool
 |0=>false
 |k+1=>iy l k||decide ((zI l (k+1)).d<0)
structure Pt where
 is:Int
 A:BA
 B:BA
def Pt.x:Pt:=⟨120,{data:= #[]},{data:= #[]}⟩
def uB:BA:={data:= #[116,104,105,115]}
def iP:BA:={data:= #[62,116,104,105,115]}
theorem jq:uB.toList=[116,104,105,115]:=by rw[Lib.toList_data];rfl
theorem o6:iP.toList=[62,116,104,105,115]:=by rw[Lib.toList_data];rfl
def qR(s:BA)(k:Nat):Int:=(s.data.toList.getD k 0).toNat
def kp(s:BA):Pt:=
 if yu s 45=false\/(qS s 45).size=0\/qR (qS s 45) 0≠62 then .x
 else if zZ (qX s 45)=false\/zZ ((qS s 45).extract 1 (qS s 45).size)=false\/qX s 45=uB\/qS s 45=iP then .x
 else⟨97,qX s 45,(qS s 45).extract 1 (qS s 45).size⟩
def xB(s:BA):Pt:=if s=uB then⟨116,{data:= #[]},{data:= #[]}⟩else if zZ s=true then⟨114,s,{data:= #[]}⟩else kp s
def opS(s:BA)(a:Nat):Pt:=⟨qR s a,s.extract 0 a,s.extract (a+1) s.size⟩
def yx(s:BA)(inner:Pt):Pt:=
 if iy s.data.toList s.size=true then .x
 else if(zI s.data.toList s.size).d≠0\/((zI s.data.toList s.size).o=true/\(zI s.data.toList s.size).n=true)\/s.size=0 then .x
 else if 0<=(zI s.data.toList s.size).a then opS s (zI s.data.toList s.size).a.toNat
 else if qR s 0=40/\qR s (s.size-1)=41/\2<s.size then inner
 else xB s
def xd:Nat->BA->Pt
 |0,s=>yx s .x
 |f+1,s=>yx s (xd f (s.extract 1 (s.size-1)))
def lM:Nat->BA->Pt
 |0,_=>.x
 |f+1,s=>xd f (s.extract 1 (s.size-1))
theorem yR(f:Nat)(s:BA):xd f s=yx s (lM f s):=by cases f<;>rfl
theorem rO(l:List UInt8)(k:Nat): -(k:Int)<=(zI l k).d/\(zI l k).d<=k/\ -1<=(zI l k).a/\(zI l k).a<k:=by
 induction k with
 |zero=>simp[zI]
 |succ k ih=>
  rw[zI];unfold Sc.step;split
  ·dsimp only;omega
  ·split
   ·dsimp only;omega
   ·split
    ·dsimp only;omega
    ·split
     ·dsimp only;omega
     ·omega
theorem Gf(l:List UInt8)(k:Nat):((zI l k).o=true\/(zI l k).n=true)->0<=(zI l k).a:=by
 induction k with
 |zero=>simp[zI]
 |succ k ih=>
  rw[zI];unfold Sc.step;split
  ·exact ih
  ·split
   ·exact ih
   ·split
    ·intro _;dsimp only;omega
    ·split
     ·intro _;dsimp only;omega
     ·exact ih
theorem uk(s:BA)(k:Nat)(h:k<s.size):qR s k=(s[k].toNat:Int):=by
 unfold qR;rw[List.getD_eq_getElem?_getD,OC (by simpa using h)];rfl
variable{k n:Nat}
theorem Ys(l:List UInt8)(h:iy l k=true)(hk:k<=n):iy l n=true:=by
 induction n with
 |zero=>
  have:k=0:=by omega
  subst this;exact h
 |succ n ih=>
  by_cases e:k=n+1
  ·subst e;exact h
  ·rw[iy,ih (by omega)];rfl
theorem fF(l:List UInt8)(k:Nat)(h:iy l k=false):0<=(zI l k).d:=by
 cases k with
 |zero=>simp[zI]
 |succ k=>simp[iy]at h;omega
theorem GY(d a:Int)(o n:Bool)(i:Int):(Sc.mk d a o n).step i 40=⟨d+1,a,o,n⟩:=rfl
theorem GZ(d a:Int)(o n:Bool)(i:Int):(Sc.mk d a o n).step i 41=⟨d-1,a,o,n⟩:=rfl
theorem QK(a:Int)(o n:Bool)(i:Int):(Sc.mk 0 a o n).step i 124=⟨0,i,true,n⟩:=rfl
theorem Yt(a:Int)(o n:Bool)(i:Int):(Sc.mk 0 a o n).step i 38=⟨0,i,o,true⟩:=rfl
theorem dj(d a:Int)(o n:Bool)(i c:Int)(h1: ¬c=40)(h2: ¬c=41)(h3: ¬(d=0/\c=124))(h4: ¬(d=0/\c=38)):(Sc.mk d a o n).step i c=⟨d,a,o,n⟩:=by
 unfold Sc.step;rw[if_neg h1,if_neg h2,if_neg h3,if_neg h4]
theorem ZY(s:BA)(h0:0<s.size)(xl:Int)(h1:(s[s.size-1].toNat:Int)=xl): ∀w,(Instr.index 9 (.string s) (.int .i64 ((s.size:Int)-1))).run prog w=.ok (.int .u8 xl) w:=by
 intro w;rw[run_index_string w _ s _ _ underlying9,dif_pos (by omega)]
 subst h1
 congr 4
 have e:((s.size:Int)-1).toNat=s.size-1:=by omega
 simp only[e]
theorem JY(s:BA)(h:2<s.size): ∀w,(Instr.slice 9 (.string s) (some (.int .i64 1)) (some (.int .i64 ((s.size:Int)-1))) none).run prog w=.ok (.string (s.extract 1 (s.size-1))) w:=by
 intro w;rw[run_slice_string (P:=prog) w 9 s .i64 .i64 1 ((s.size:Int)-1) underlying9 (by omega) (by omega) (by omega)]
 have e:((s.size:Int)-1).toNat=s.size-1:=by omega
 rw[e];rfl
def Pt.val(p:Pt):Value:=.agg #[.int .u8 p.is,.string p.A,.string p.B]
theorem lN(f:Nat)(HI:Hid (∀g,f=g+1-> ∀(s:BA) (w:World),s.size<=maxLen->s.size<=g->Calls prog 199 #[.string s] w λe w'=>e=.returned (xd g s).val/\Below w.heap.size w w'))
  (s:BA) (w:World) (hs:s.size<=maxLen) (hf:s.size<=f):
  Calls prog 199 #[.string s] w λe w'=>e=.returned (xd f s).val/\Below w.heap.size w w':=by
 have HS:Hid (s.size<=maxLen):=hs;unfold maxLen at hs;go_enter func199,ntmps199;go_wp2
 go_loop [3,4,5,6,7] (λd a o n i=> ∃k:Nat,k<=s.size/\i=.int .i64 k/\d=.int .i64 (zI s.data.toList k).d/\a=.int .i64 (zI s.data.toList k).a/\o=.bool (zI s.data.toList k).o/\n=.bool (zI s.data.toList k).n/\iy s.data.toList k=false) (λ_ _ _ _ i=>s.size-(intOf i).toNat)
 case atStart=>exact⟨0,by omega,rfl,rfl,rfl,rfl,rfl,rfl⟩
 case round=>
  obtain⟨k,hk,rfl,rfl,rfl,rfl,rfl,h9⟩:=hrel;have HN:Hid (iy s.data.toList k=false):=h9;clear h9;have ho:=rO s.data.toList k;by_cases hlt:k<s.size
  ·have HC:Hid (zI s.data.toList (k+1)=(zI s.data.toList k).step k (qR s k)):=rfl
   obtain⟨c,hc⟩: ∃c:Int,(s[k].toNat:Int)=c:=⟨_,rfl⟩;rw[uk s k hlt,hc]at HC;have HG:Hid (iy s.data.toList (k+1)=(iy s.data.toList k||decide ((zI s.data.toList (k+1)).d<0))):=rfl;generalize hq1:zI s.data.toList (k+1)=q1 at HC HG;have h1:Hid (zI s.data.toList (k+1)=q1):=hq1;clear hq1;generalize hq:zI s.data.toList k=q at *;have HQ:Hid (zI s.data.toList k=q):=hq;clear hq;obtain⟨d,a,o,n⟩:=q;dsimp only at ho ⊢;have hv:0<=d:=by have:=fF _ _ HN.out;rw[HQ.out]at this;exact this
   by_cases h40:c=40
   ·subst h40
    rw[GY]at HC;go_wp2
    go_round
    case rel=>exact⟨k+1,by omega,by go_num,by rw[h1.out,HC.out],by rw[h1.out,HC.out],by rw[h1.out,HC.out],by rw[h1.out,HC.out],by rw[HG.out,HN.out,HC.out];simp<;>omega⟩
    case measure=>simp[intOf];omega
   ·by_cases h41:c=41
    ·subst h41
     rw[GZ]at HC;by_cases hdz:d=0
     ·subst hdz
      have HX:Hid ((xd f s)=.x):=by
       show _=_
       rw[yR];unfold yx;rw[if_pos (Ys _ (k:=k+1) (by rw[HG.out,HN.out,HC.out];simp) (by omega))]
      go_wp2;refine bodyPost_ret (v:=.agg #[.int .u8 120,.string {data:= #[]},.string {data:= #[]}]) (by simp[results,results199,go_sem]) rfl ⟨?_,?_⟩
      ·rw[HX.out];rfl
      ·exact(Ou _ _).alloc (Uc _) _
     ·have hy:0<d:=by omega
      go_wp2
      go_round
      case rel=>exact⟨k+1,by omega,by go_num,by rw[h1.out,HC.out],by rw[h1.out,HC.out],by rw[h1.out,HC.out],by rw[h1.out,HC.out],by rw[HG.out,HN.out,HC.out];simp<;>omega⟩
      case measure=>simp[intOf];omega
    ·by_cases hdz:d=0
     ·subst hdz
      by_cases h124:c=124
      ·subst h124
       rw[QK]at HC;go_wp2
       go_round
       case rel=>exact⟨k+1,by omega,by go_num,by rw[h1.out,HC.out],by rw[h1.out,HC.out],by rw[h1.out,HC.out],by rw[h1.out,HC.out],by rw[HG.out,HN.out,HC.out];simp<;>omega⟩
       case measure=>simp[intOf];omega
      ·by_cases h38:c=38
       ·subst h38
        rw[Yt]at HC;go_wp2
        go_round
        case rel=>exact⟨k+1,by omega,by go_num,by rw[h1.out,HC.out],by rw[h1.out,HC.out],by rw[h1.out,HC.out],by rw[h1.out,HC.out],by rw[HG.out,HN.out,HC.out];simp<;>omega⟩
        case measure=>simp[intOf];omega
       ·rw[dj _ _ _ _ _ _ h40 h41 (by simp[h124]) (by simp[h38])]at HC
        go_wp2
        go_round
        case rel=>exact⟨k+1,by omega,by go_num,by rw[h1.out,HC.out],by rw[h1.out,HC.out],by rw[h1.out,HC.out],by rw[h1.out,HC.out],by rw[HG.out,HN.out,HC.out];simp<;>omega⟩
        case measure=>simp[intOf];omega
     ·rw[dj _ _ _ _ _ _ h40 h41 (by simp[hdz]) (by simp[hdz])]at HC
      go_wp2
      go_round
      case rel=>exact⟨k+1,by omega,by go_num,by rw[h1.out,HC.out],by rw[h1.out,HC.out],by rw[h1.out,HC.out],by rw[h1.out,HC.out],by rw[HG.out,HN.out,HC.out];simp<;>omega⟩
      case measure=>simp[intOf];omega
  ·obtain rfl:k=s.size:=by omega
   have hv:=fF _ _ HN.out;have HE:Hid (xd f s=if(zI s.data.toList s.size).d≠0\/((zI s.data.toList s.size).o=true/\(zI s.data.toList s.size).n=true)\/s.size=0 then .x else if 0<=(zI s.data.toList s.size).a then opS s (zI s.data.toList s.size).a.toNat else if qR s 0=40/\qR s (s.size-1)=41/\2<s.size then lM f s else xB s):=by
    show _=_
    rw[yR];unfold yx;rw[if_neg (by rw[HN.out];simp)]
   clear HN;have HO:Hid (((zI s.data.toList s.size).o=true\/(zI s.data.toList s.size).n=true)->0<=(zI s.data.toList s.size).a):=Gf _ _;generalize zI s.data.toList s.size=q at *;obtain⟨d,a,o,n⟩:=q;dsimp only at ho hv HE HO ⊢;by_cases hd:d=0
   ·subst hd
    cases o<;>cases n
    ·by_cases h0:0<s.size
     ·have h7:s.toList.isEmpty=false:=jb s h0
      by_cases ha:0<=a
      ·have HX:Hid (xd f s=opS s a.toNat):=by
        show _=_
        rw[HE.out,if_neg (λh=>h.elim (λh=>h rfl) (λh=>h.elim (λh=>by cases h.1) (λh=>by omega))),if_pos ha]
       clear HE;obtain⟨an,rfl⟩: ∃an:Nat,a=an:=⟨a.toNat,by omega⟩
       go_wp2
       go_region
       all_goals (go_wp2;refine bodyPost_ret (v:=(opS s an).val) (by simp[results,results199,go_sem,Pt.val,opS,uk s an (by omega)]) rfl ⟨?_,?_⟩)
       ·rw[HX.out];rfl
       ·exact((Ou _ _).alloc (Uc _) _).drew
      ·obtain rfl:a= -1:=by omega
       obtain⟨x0,hD⟩: ∃x:Int,(s[0].toNat:Int)=x:=⟨_,rfl⟩;have hx:s.size-1<s.size:=by omega
       obtain⟨xl,hg⟩: ∃x:Int,(s[s.size-1].toNat:Int)=x:=⟨_,rfl⟩;have HB:Hid (qR s 0=x0/\qR s (s.size-1)=xl):=⟨by rw[uk s 0 h0,hD],by rw[uk s _ hx,hg]⟩
       have hJ: ∀w,(Instr.index 9 (.string s) (.int .i64 ((s.size:Int)-1))).run prog w=.ok (.int .u8 xl) w:=ZY s h0 xl hg;clear hg hx;by_cases hl:x0=40/\xl=41/\2<s.size
       ·obtain⟨rfl,rfl,h2⟩:=hl
        obtain⟨g,rfl⟩: ∃g,f=g+1:=⟨f-1,by omega⟩
        have HX:Hid (xd (g+1) s=xd g (s.extract 1 (s.size-1))):=by
         show _=_
         rw[HE.out,if_neg (λh=>h.elim (λh=>h rfl) (λh=>h.elim (λh=>by cases h.1) (λh=>by omega))),if_neg (by omega),if_pos ⟨HB.out.1,HB.out.2,h2⟩];rfl
        clear HE;have he:=HI.out g rfl (s.extract 1 (s.size-1));have hE:(s.extract 1 (s.size-1)).size=s.size-2:=by simp;omega
        have hM: ∀w,(Instr.slice 9 (.string s) (some (.int .i64 1)) (some (.int .i64 ((s.size:Int)-1))) none).run prog w=.ok (.string (s.extract 1 (s.size-1))) w:=JY s h2;generalize s.extract 1 (s.size-1)=t at *;have hr:t.size<=maxLen:=by have:=HS.out;omega
        have he:=λw=>he w hr (by omega)
        clear hE hr;generalize hp:xd g t=p at *;obtain⟨pi,pA,pB⟩:=p;clear hp;unfold Pt.val at he;dsimp only at he
        go_wp2_with(go_at_call 199;refine(he _).mono ?_;rintro e w' ⟨rfl,hb⟩;obtain⟨hm,hB⟩:=vS hb;have hz:=hb.size;simp only[World.size_alloc]at hm hB hz)
        refine bodyPost_ret (v:=(Pt.mk pi pA pB).val) (by simp[results,results199,go_sem,Pt.val,hm]) rfl ⟨?_,?_⟩
        ·rw[HX.out]
        ·exact(((((Ou _ _).alloc (Uc _) _).trans (hb.mono (by simp))).setCell (by simp) _).setCell (by simp) _).setCell (by simp) _
       ·have HX:Hid (xd f s=xB s):=by
         show _=_
         rw[HE.out,if_neg (λh=>h.elim (λh=>h rfl) (λh=>h.elim (λh=>by cases h.1) (λh=>by omega))),if_neg (by omega),if_neg (by rw[HB.out.1,HB.out.2];exact hl)]
        clear HE HI HB;have h8:(x0==40)=false\/(x0=40/\(xl==41)=false)\/(x0=40/\xl=41/\s.size<=2):=by simp;omega
        clear hl;rcases h8 with h|⟨rfl,h⟩|⟨rfl,rfl,h⟩
        all_goals
         by_cases hth:s=uB
         ·have hi:(s.toList==[116,104,105,115])=true:=by rw[←jq];exact aK s uB hth
          have h6:xB s=⟨116,{data:= #[]},{data:= #[]}⟩:=by unfold xB;rw[if_pos hth]
          rw[h6]at HX;clear h6 hth;go_wp2;refine bodyPost_ret (v:=(Pt.mk 116 {data:= #[]} {data:= #[]}).val) (by simp[results,results199,go_sem,Pt.val]) rfl ⟨?_,?_⟩
          ·rw[HX.out]
          ·first|exact(Ou _ _).alloc (Uc _) _|exact(((below_drewN ((Ou _ _).alloc (Uc _) _) _).setCell (by simp) _).setCell (by simp) _).setCell (by simp) _
         ·have hi:(s.toList==[116,104,105,115])=false:=by rw[←jq];exact aL s uB hth
          have h3:=λw=>ja s w HS.out;cases hnm:zZ s
          ·rw[hnm]at h3
           have h6:xB s=kp s:=by unfold xB;rw[if_neg hth,if_neg (by rw[hnm];simp)]
           rw[h6]at HX;clear h6 hth hnm;obtain⟨A,Z,O,hA,hZ,hO,hn,hI,hc⟩:=yZ s 45 HS.out;unfold kp at HX;rw[hA,hZ,hO]at HX;clear hA hZ hO;have hu:=λw=>ja A w hn;have h4:=hu;clear hu;cases O
           ·rw[if_pos (Or.inl rfl)]at HX
            go_wp2_with(first|(go_at_call 117;refine(hc _).mono ?_;rintro e w' ⟨rfl,⟨nd,rfl⟩⟩)|(go_at_call 119;refine(h3 _).mono ?_;clear h3;rintro e w' ⟨rfl,rfl⟩)|(go_at_call 119;refine(h4 _).mono ?_;clear h4;rintro e w' ⟨rfl,rfl⟩)|(go_at_call 119;refine(h5 _).mono ?_;rintro e w' ⟨rfl,rfl⟩))
            refine bodyPost_ret (v:=Pt.x.val) (by simp[results,results199,go_sem,Pt.val,Pt.x]) rfl ⟨?_,?_⟩
            ·rw[HX.out]
            ·first|exact(Ou _ _).alloc (Uc _) _|exact(((below_drewN ((Ou _ _).alloc (Uc _) _) _).setCell (by simp) _).setCell (by simp) _).setCell (by simp) _
           ·by_cases hz0:0<Z.size
            ·have hC:Z.toList.isEmpty=false:=jb Z hz0
             have hj:=uk Z 0 hz0;obtain⟨z0,hL⟩: ∃z:Int,(Z[0].toNat:Int)=z:=⟨_,rfl⟩;rw[hL]at hj;rw[hj]at HX;clear hj;by_cases h62:z0=62
             ·subst h62
              have ht:(Z.extract 1 Z.size).size<=maxLen:=by simp;omega
              have h5:=λw=>ja (Z.extract 1 Z.size) w ht;clear ht hn hI;rw[if_neg (λh=>h.elim (λh=>by cases h) (λh=>h.elim (λh=>by omega) (λh=>h rfl)))]at HX
              cases hNA:zZ A
              ·rw[if_pos (Or.inl hNA)]at HX
               rw[hNA]at h4;generalize zZ (Z.extract 1 Z.size)=y at *
               go_wp2_with(first|(go_at_call 117;refine(hc _).mono ?_;rintro e w' ⟨rfl,⟨nd,rfl⟩⟩)|(go_at_call 119;refine(h3 _).mono ?_;clear h3;rintro e w' ⟨rfl,rfl⟩)|(go_at_call 119;refine(h4 _).mono ?_;clear h4;rintro e w' ⟨rfl,rfl⟩)|(go_at_call 119;refine(h5 _).mono ?_;rintro e w' ⟨rfl,rfl⟩))
               refine bodyPost_ret (v:=Pt.x.val) (by simp[results,results199,go_sem,Pt.val,Pt.x]) rfl ⟨?_,?_⟩
               ·rw[HX.out]
               ·first|exact(Ou _ _).alloc (Uc _) _|exact(((below_drewN ((Ou _ _).alloc (Uc _) _) _).setCell (by simp) _).setCell (by simp) _).setCell (by simp) _
              ·rw[hNA]at h4
               cases hNY:zZ (Z.extract 1 Z.size)
               ·rw[if_pos (Or.inr (Or.inl hNY))]at HX
                rw[hNY]at h5;clear hNY hNA
                go_wp2_with(first|(go_at_call 117;refine(hc _).mono ?_;rintro e w' ⟨rfl,⟨nd,rfl⟩⟩)|(go_at_call 119;refine(h3 _).mono ?_;clear h3;rintro e w' ⟨rfl,rfl⟩)|(go_at_call 119;refine(h4 _).mono ?_;clear h4;rintro e w' ⟨rfl,rfl⟩)|(go_at_call 119;refine(h5 _).mono ?_;rintro e w' ⟨rfl,rfl⟩))
                refine bodyPost_ret (v:=Pt.x.val) (by simp[results,results199,go_sem,Pt.val,Pt.x]) rfl ⟨?_,?_⟩
                ·rw[HX.out]
                ·first|exact(Ou _ _).alloc (Uc _) _|exact(((below_drewN ((Ou _ _).alloc (Uc _) _) _).setCell (by simp) _).setCell (by simp) _).setCell (by simp) _
               ·rw[hNY]at h5
                by_cases hAt:A=uB
                ·have hF:(A.toList==[116,104,105,115])=true:=by rw[←jq];exact aK A uB hAt
                 rw[if_pos (Or.inr (Or.inr (Or.inl hAt)))]at HX;clear hNY hNA hAt
                 go_wp2_with(first|(go_at_call 117;refine(hc _).mono ?_;rintro e w' ⟨rfl,⟨nd,rfl⟩⟩)|(go_at_call 119;refine(h3 _).mono ?_;clear h3;rintro e w' ⟨rfl,rfl⟩)|(go_at_call 119;refine(h4 _).mono ?_;clear h4;rintro e w' ⟨rfl,rfl⟩)|(go_at_call 119;refine(h5 _).mono ?_;rintro e w' ⟨rfl,rfl⟩))
                 refine bodyPost_ret (v:=Pt.x.val) (by simp[results,results199,go_sem,Pt.val,Pt.x]) rfl ⟨?_,?_⟩
                 ·rw[HX.out]
                 ·first|exact(Ou _ _).alloc (Uc _) _|exact(((below_drewN ((Ou _ _).alloc (Uc _) _) _).setCell (by simp) _).setCell (by simp) _).setCell (by simp) _
                ·have hF:(A.toList==[116,104,105,115])=false:=by rw[←jq];exact aL A uB hAt
                 by_cases hZt:Z=iP
                 ·have hG:(Z.toList==[62,116,104,105,115])=true:=by rw[←o6];exact aK Z iP hZt
                  rw[if_pos (Or.inr (Or.inr (Or.inr hZt)))]at HX;clear hNY hNA hAt hZt
                  go_wp2_with(first|(go_at_call 117;refine(hc _).mono ?_;rintro e w' ⟨rfl,⟨nd,rfl⟩⟩)|(go_at_call 119;refine(h3 _).mono ?_;clear h3;rintro e w' ⟨rfl,rfl⟩)|(go_at_call 119;refine(h4 _).mono ?_;clear h4;rintro e w' ⟨rfl,rfl⟩)|(go_at_call 119;refine(h5 _).mono ?_;rintro e w' ⟨rfl,rfl⟩))
                  refine bodyPost_ret (v:=Pt.x.val) (by simp[results,results199,go_sem,Pt.val,Pt.x]) rfl ⟨?_,?_⟩
                  ·rw[HX.out]
                  ·first|exact(Ou _ _).alloc (Uc _) _|exact(((below_drewN ((Ou _ _).alloc (Uc _) _) _).setCell (by simp) _).setCell (by simp) _).setCell (by simp) _
                 ·have hG:(Z.toList==[62,116,104,105,115])=false:=by rw[←o6];exact aL Z iP hZt
                  rw[if_neg (by rw[hNA,hNY];simp[hAt,hZt])]at HX
                  clear hNY hNA hAt hZt
                  go_wp2_with(first|(go_at_call 117;refine(hc _).mono ?_;rintro e w' ⟨rfl,⟨nd,rfl⟩⟩)|(go_at_call 119;refine(h3 _).mono ?_;clear h3;rintro e w' ⟨rfl,rfl⟩)|(go_at_call 119;refine(h4 _).mono ?_;clear h4;rintro e w' ⟨rfl,rfl⟩)|(go_at_call 119;refine(h5 _).mono ?_;rintro e w' ⟨rfl,rfl⟩))
                  refine bodyPost_ret (v:=(Pt.mk 97 A (Z.extract 1 Z.size)).val) (by simp[results,results199,go_sem,Pt.val]) rfl ⟨?_,?_⟩
                  ·rw[HX.out]
                  ·first|exact(Ou _ _).alloc (Uc _) _|exact(((below_drewN ((Ou _ _).alloc (Uc _) _) _).setCell (by simp) _).setCell (by simp) _).setCell (by simp) _
             ·have hK:(z0==62)=false:=by simpa using h62
              rw[if_pos (Or.inr (Or.inr h62))]at HX
              go_wp2_with(first|(go_at_call 117;refine(hc _).mono ?_;rintro e w' ⟨rfl,⟨nd,rfl⟩⟩)|(go_at_call 119;refine(h3 _).mono ?_;clear h3;rintro e w' ⟨rfl,rfl⟩)|(go_at_call 119;refine(h4 _).mono ?_;clear h4;rintro e w' ⟨rfl,rfl⟩)|(go_at_call 119;refine(h5 _).mono ?_;rintro e w' ⟨rfl,rfl⟩))
              refine bodyPost_ret (v:=Pt.x.val) (by simp[results,results199,go_sem,Pt.val,Pt.x]) rfl ⟨?_,?_⟩
              ·rw[HX.out]
              ·first|exact(Ou _ _).alloc (Uc _) _|exact(((below_drewN ((Ou _ _).alloc (Uc _) _) _).setCell (by simp) _).setCell (by simp) _).setCell (by simp) _
            ·have hC:Z.toList.isEmpty=true:=cJ Z (by omega)
             rw[if_pos (Or.inr (Or.inl (by omega)))]at HX
             go_wp2_with(first|(go_at_call 117;refine(hc _).mono ?_;rintro e w' ⟨rfl,⟨nd,rfl⟩⟩)|(go_at_call 119;refine(h3 _).mono ?_;clear h3;rintro e w' ⟨rfl,rfl⟩)|(go_at_call 119;refine(h4 _).mono ?_;clear h4;rintro e w' ⟨rfl,rfl⟩)|(go_at_call 119;refine(h5 _).mono ?_;rintro e w' ⟨rfl,rfl⟩))
             refine bodyPost_ret (v:=Pt.x.val) (by simp[results,results199,go_sem,Pt.val,Pt.x]) rfl ⟨?_,?_⟩
             ·rw[HX.out]
             ·first|exact(Ou _ _).alloc (Uc _) _|exact(((below_drewN ((Ou _ _).alloc (Uc _) _) _).setCell (by simp) _).setCell (by simp) _).setCell (by simp) _
          ·rw[hnm]at h3
           have h6:xB s=⟨114,s,{data:= #[]}⟩:=by unfold xB;rw[if_neg hth,if_pos hnm]
           rw[h6]at HX;clear h6 hth hnm
           go_wp2_with(go_at_call 119;refine(h3 _).mono ?_;rintro e w' ⟨rfl,rfl⟩)
           refine bodyPost_ret (v:=(Pt.mk 114 s {data:= #[]}).val) (by simp[results,results199,go_sem,Pt.val]) rfl ⟨?_,?_⟩
           ·rw[HX.out]
           ·first|exact(Ou _ _).alloc (Uc _) _|exact(((below_drewN ((Ou _ _).alloc (Uc _) _) _).setCell (by simp) _).setCell (by simp) _).setCell (by simp) _
     ·have HX:Hid (xd f s=.x):=by show _=_;rw[HE.out,if_pos (by right;right;omega)]
      have h7:s.toList.isEmpty=true:=cJ s (by omega)
      go_wp2;refine bodyPost_ret (v:=Pt.x.val) (by simp[results,results199,go_sem,Pt.val,Pt.x]) rfl ⟨?_,?_⟩
      ·rw[HX.out]
      ·exact(Ou _ _).alloc (Uc _) _
    ·have ha:0<=a:=HO.out (by simp)
     have h0:0<s.size:=by omega
     have h7:s.toList.isEmpty=false:=jb s h0;have HX:Hid (xd f s=opS s a.toNat):=by
      show _=_
      rw[HE.out,if_neg (λh=>h.elim (λh=>h rfl) (λh=>h.elim (λh=>by simp at h) (λh=>by omega))),if_pos ha]
     clear HE;obtain⟨an,rfl⟩: ∃an:Nat,a=an:=⟨a.toNat,by omega⟩
     go_wp2
     go_region
     all_goals (go_wp2;refine bodyPost_ret (v:=(opS s an).val) (by simp[results,results199,go_sem,Pt.val,opS,uk s an (by omega)]) rfl ⟨?_,?_⟩)
     ·rw[HX.out];rfl
     ·exact((Ou _ _).alloc (Uc _) _).drew
    ·have ha:0<=a:=HO.out (by simp)
     have h0:0<s.size:=by omega
     have h7:s.toList.isEmpty=false:=jb s h0;have HX:Hid (xd f s=opS s a.toNat):=by
      show _=_
      rw[HE.out,if_neg (λh=>h.elim (λh=>h rfl) (λh=>h.elim (λh=>by simp at h) (λh=>by omega))),if_pos ha]
     clear HE;obtain⟨an,rfl⟩: ∃an:Nat,a=an:=⟨a.toNat,by omega⟩
     go_wp2
     go_region
     all_goals (go_wp2;refine bodyPost_ret (v:=(opS s an).val) (by simp[results,results199,go_sem,Pt.val,opS,uk s an (by omega)]) rfl ⟨?_,?_⟩)
     ·rw[HX.out];rfl
     ·exact((Ou _ _).alloc (Uc _) _).drew
    ·have HX:Hid (xd f s=.x):=by show _=_;rw[HE.out,if_pos (by right;left;exact⟨rfl,rfl⟩)]
     go_wp2;refine bodyPost_ret (v:=.agg #[.int .u8 120,.string {data:= #[]},.string {data:= #[]}]) (by simp[results,results199,go_sem]) rfl ⟨?_,?_⟩
     ·rw[HX.out];rfl
     ·exact(Ou _ _).alloc (Uc _) _
   ·have HX:Hid (xd f s=.x):=by show _=_;rw[HE.out,if_pos (Or.inl hd)]
    have hy:0<d:=by omega
    go_wp2;refine bodyPost_ret (v:=.agg #[.int .u8 120,.string {data:= #[]},.string {data:= #[]}]) (by simp[results,results199,go_sem]) rfl ⟨?_,?_⟩
    ·rw[HX.out];rfl
    ·exact(Ou _ _).alloc (Uc _) _
theorem vg: ∀(f:Nat) (s:BA) (w:World),s.size<=maxLen->s.size<=f->
  Calls prog 199 #[.string s] w λe w'=>e=.returned (xd f s).val/\Below w.heap.size w w':=by
 intro f
 induction f with
 |zero=>exact λs w h1 h2=>lN 0 (λg hg=>by omega) s w h1 h2
 |succ f ih=>
  refine λs w h1 h2=>lN (f+1) ?_ s w h1 h2;intro g hg;have e:f=g:=by omega
  subst e;exact ih
def qe(s:BA):Pt:=xd s.size s
def yb:Nat->BA->Bool
 |0,s=>if(qe s).is≠124/\(qe s).is≠38 then decide ((qe s).is≠120)else false
 |f+1,s=>if(qe s).is≠124/\(qe s).is≠38 then decide ((qe s).is≠120)else yb f (qe s).A && yb f (qe s).B
def jc(s:BA):Bool:=yb s.size s
theorem gK(s:BA):(xB s).is≠124/\(xB s).is≠38:=by
 unfold xB;split
 ·simp
 ·split
  ·simp
  ·unfold kp
   split
   ·simp[Pt.x]
   ·split<;>simp[Pt.x]
theorem kQ: ∀(f:Nat) (s:BA),((xd f s).is=124\/(xd f s).is=38)->(xd f s).A.size<s.size/\(xd f s).B.size<s.size:=by
 intro f
 induction f with
 |zero=>
  intro s;rw[yR];unfold yx;have h0:=rO s.data.toList s.size;split
  ·simp[Pt.x]
  ·split
   ·simp[Pt.x]
   ·split
    ·intro _;simp[opS];omega
    ·split
     ·simp[lM,Pt.x]
     ·have:=gK s;intro h;omega
 |succ f ih=>
  intro s;rw[yR];unfold yx;have h0:=rO s.data.toList s.size;split
  ·simp[Pt.x]
  ·split
   ·simp[Pt.x]
   ·split
    ·intro _;simp[opS];omega
    ·split
     ·intro h
      have:=ih (s.extract 1 (s.size-1)) h;simp only[ByteArray.size_extract]at this;show(xd f _).A.size<_/\(xd f _).B.size<_
      omega
     ·have:=gK s;intro h;omega
theorem fG(f:Nat)(HI:Hid (∀g,f=g+1-> ∀(s:BA) (w:World),s.size<=maxLen->s.size<=g->Calls prog 165 #[.string s] w λe w'=>e=.returned (.bool (yb g s))/\Below w.heap.size w w'))
  (s:BA) (w:World) (hs:s.size<=maxLen) (hf:s.size<=f):
  Calls prog 165 #[.string s] w λe w'=>e=.returned (.bool (yb f s))/\Below w.heap.size w w':=by
 have ha:=λw=>vg s.size s w hs (Uc _);have hz:=kQ s.size s
 change (∀w,Calls prog 199 #[.string s] w λe w'=>e=.returned (qe s).val/\Below w.heap.size w w')at ha
 change ((qe s).is=124\/(qe s).is=38)->(qe s).A.size<s.size/\(qe s).B.size<s.size at hz
 by_cases h3:(qe s).is=124\/(qe s).is=38
 ·obtain⟨hA,hB⟩:=hz h3
  obtain⟨g,rfl⟩: ∃g,f=g+1:=⟨f-1,by omega⟩
  have h5:=λw=>HI.out g rfl (qe s).A w (by omega) (by omega)
  have h9:=λw=>HI.out g rfl (qe s).B w (by omega) (by omega)
  have HW:Hid (yb (g+1) s=(yb g (qe s).A && yb g (qe s).B)):=by
   show _=_
   rw[yb,if_neg (by omega)]
  clear HI hz hs hf hA hB;unfold Pt.val at ha;generalize (qe s).A=A at *;generalize (qe s).B=B at *;generalize (qe s).is=i at *;generalize yb g A=x at *;generalize yb g B=y at *;rcases h3 with rfl|rfl
  all_goals
   cases x
   all_goals
    go_enter func165,ntmps165
    go_wp2_with(first|(go_at_call 199;refine(ha _).mono ?_;rintro e w1 ⟨rfl,h0⟩;have hb:=h0.size)|(go_at_call 165;refine(h5 _).mono ?_;clear h5;rintro e w2 ⟨rfl,h4⟩;obtain⟨hc,h6⟩:=vS h4;have h8:=h4.size;simp only[World.size_alloc]at hc h6 h8)|(go_at_call 165;refine(h9 _).mono ?_;rintro e w3 ⟨rfl,h7⟩))
    go_ret;exact⟨zo (by rw[HW.out];rfl),((h0.alloc h0.size _).trans (h4.mono (by simp;omega))).trans (h7.mono (by omega))⟩
 ·have HW:Hid (yb f s=decide ((qe s).is≠120)):=by
   show _=_
   cases f<;>rw[yb,if_pos (by omega)]
  have h1:((qe s).is !=124)=true:=by simp;omega
  have h2:((qe s).is !=38)=true:=by simp;omega
  clear HI hz h3;unfold Pt.val at ha;generalize (qe s).A=A at *;generalize (qe s).B=B at *;generalize (qe s).is=i at *;go_enter func165,ntmps165
  go_wp2_with(go_at_call 199;refine(ha _).mono ?_;rintro e w1 ⟨rfl,h0⟩;have hb:=h0.size)
  go_ret;exact⟨zo (by rw[HW.out,Bool.eq_iff_iff];simp),h0.alloc h0.size _⟩
theorem Od: ∀(f:Nat) (s:BA) (w:World),s.size<=maxLen->s.size<=f->
  Calls prog 165 #[.string s] w λe w'=>e=.returned (.bool (yb f s))/\Below w.heap.size w w':=by
 intro f
 induction f with
 |zero=>exact λs w h1 h2=>fG 0 (λg hg=>by omega) s w h1 h2
 |succ f ih=>
  refine λs w h1 h2=>fG (f+1) ?_ s w h1 h2;intro g hg;have e:f=g:=by omega
  subst e;exact ih
theorem Gg(s:BA)(w:World)(hs:s.size<=maxLen):Calls prog 165 #[.string s] w λe w'=>e=.returned (.bool (jc s))/\Below w.heap.size w w':=Od s.size s w hs (Uc _)
def vv(l:List UInt8):Nat->Int
 |0=>0
 |k+1=>vv l k+(if((l.getD k 0).toNat:Int)=40 then 1 else 0)-(if((l.getD k 0).toNat:Int)=41 then 1 else 0)
def y6(l:List UInt8):Nat->Bool
 |0=>false
 |k+1=>y6 l k||decide (5<vv l (k+1))
def qT(s:BA):BA:=qX s 61
def xr(s:BA):BA:=qS s 61
def xm(s:BA):Bool:=decide (s.size<=200) && !y6 (xr s).data.toList (xr s).size && yu s 61 && yu (qT s) 35 && zZ (qX (qT s) 35) && zZ (qS (qT s) 35) && jc (xr s) && !decide (qS (qT s) 35=uB)
theorem JZ(l:List UInt8)(k:Nat): -(k:Int)<=vv l k/\vv l k<=k:=by
 induction k with
 |zero=>simp[vv]
 |succ k ih=>rw[vv];split<;>split<;>omega
theorem cK(l:List UInt8)(h:y6 l k=true)(hk:k<=n):y6 l n=true:=by
 induction n with
 |zero=>
  have:k=0:=by omega
  subst this;exact h
 |succ n ih=>
  by_cases e:k=n+1
  ·subst e;exact h
  ·rw[y6,ih (by omega)];rfl
theorem J0(s:BA)(w:World)(hs:s.size<=maxLen):
  Calls prog 116 #[.string s] w λe w'=> ∃A B,e=.returned (.tuple #[.agg #[.string A,.string B],.bool (xm s)])/\(xm s=true->A=qT s/\B=xr s)/\Below w.heap.size w w':=by
 have HS:Hid (s.size<=maxLen):=hs;unfold maxLen at hs;by_cases hlong:200<s.size
 ·have hr:xm s=false:=by unfold xm;rw[Uo (by omega)];rfl
  rw[hr];clear hr;go_enter func116,ntmps116;go_wp2;refine bodyPost_ret (v:=.tuple #[.agg #[.string {data:= #[]},.string {data:= #[]}],.bool false]) (by simp[results,results116,go_sem]) rfl ⟨_,_,rfl,by simp,?_⟩
  exact(Ou _ _).alloc (Uc _) _
 ·obtain⟨A1,Z1,O1,h8,h9,hi,hf,h7,he⟩:=yZ s 61 HS.out
  obtain⟨A2,Z2,O2,hn,hg,hm,hj,ho,hu⟩:=yZ A1 35 hf;have HR:Hid (xm s=(!y6 Z1.data.toList Z1.size && O1 && O2 && zZ A2 && zZ Z2 && jc Z1 && !decide (Z2=uB))):=by
   show _=_
   unfold xm qT xr;rw[h8,h9,hi,hn,hg,hm,Up (by omega:s.size<=200),Bool.true_and]
  have HO:Hid (qT s=A1/\xr s=Z1):=⟨h8,h9⟩;have hl:=λw=>ja A2 w hj;have hp:=λw=>ja Z2 w ho;have h4:=λw=>Gg Z1 w h7;have hx:Hid (Z1.size<=maxLen):=h7;clear h8 h9 hi hn hg hm hf hj ho;unfold maxLen at h7;generalize zZ A2=x at *;generalize zZ Z2=y at *;generalize jc Z1=z at *;go_enter func116,ntmps116
  go_wp2_with(first|(go_at_call 117;refine(he _).mono ?_;clear he;rintro e w' ⟨rfl,⟨n1,rfl⟩⟩)|(go_at_call 117;refine(hu _).mono ?_;rintro e w' ⟨rfl,⟨n2,rfl⟩⟩)|(go_at_call 119;refine(hl _).mono ?_;clear hl;rintro e w' ⟨rfl,rfl⟩)|(go_at_call 119;refine(hp _).mono ?_;rintro e w' ⟨rfl,rfl⟩))
  go_loop [12,13] (λd i=> ∃k:Nat,k<=Z1.size/\i=.int .i64 k/\d=.int .i64 (vv Z1.data.toList k)/\y6 Z1.data.toList k=false) (λ_ i=>Z1.size-(intOf i).toNat)
  case atStart=>exact⟨0,by omega,rfl,rfl,rfl⟩
  case round=>
   obtain⟨k,hk,rfl,rfl,hd⟩:=hrel;have HD:Hid (y6 Z1.data.toList k=false):=hd;clear hd;by_cases hlt:k<Z1.size
   ·have hv:=JZ Z1.data.toList k
    have HK:Hid (vv Z1.data.toList (k+1)=vv Z1.data.toList k+(if qR Z1 k=40 then 1 else 0)-(if qR Z1 k=41 then 1 else 0)):=rfl
    have HG:Hid (y6 Z1.data.toList (k+1)=(y6 Z1.data.toList k||decide (5<vv Z1.data.toList (k+1)))):=rfl;obtain⟨c,hc⟩: ∃c:Int,(Z1[k].toNat:Int)=c:=⟨_,rfl⟩;rw[uk Z1 k hlt,hc]at HK;generalize hq1:vv Z1.data.toList (k+1)=d1 at HK HG;have ha:Hid (vv Z1.data.toList (k+1)=d1):=hq1;clear hq1;generalize vv Z1.data.toList k=d at *;by_cases h40:c=40
    ·subst h40
     have h6:Hid (d1=d+1):=by show _=_;rw[HK.out];simp
     by_cases h5:5<d+1
     ·have HX:Hid (xm s=false):=by
       show _=_
       rw[HR.out,cK _ (k:=k+1) (by rw[HG.out,h6.out];simp;omega) (by omega)];simp
      go_wp2;refine bodyPost_ret (v:=.tuple #[.agg #[.string {data:= #[]},.string {data:= #[]}],.bool false]) (by simp[results,results116,go_sem]) rfl ⟨_,_,by rw[HX.out],by rw[HX.out];simp,?_⟩
      repeat(first|exact Ou _ _|refine Below.setCell ?_ (by first|exact Uc _|(simp;done)|(simp;omega)) _|refine below_drewN ?_ _|refine Below.drew ?_|refine Below.alloc ?_ (by first|exact Uc _|(simp;done)|(simp;omega)) _)
     ·go_wp2
      go_round
      case rel=>exact⟨k+1,by omega,by go_num,by rw[ha.out,h6.out],by rw[HG.out,HD.out,h6.out];simp;omega⟩
      case measure=>simp[intOf];omega
    ·by_cases h41:c=41
     ·subst h41
      have h6:Hid (d1=d-1):=by show _=_;rw[HK.out];simp
      by_cases h5:5<d-1
      ·have HX:Hid (xm s=false):=by
        show _=_
        rw[HR.out,cK _ (k:=k+1) (by rw[HG.out,h6.out];simp;omega) (by omega)];simp
       go_wp2;refine bodyPost_ret (v:=.tuple #[.agg #[.string {data:= #[]},.string {data:= #[]}],.bool false]) (by simp[results,results116,go_sem]) rfl ⟨_,_,by rw[HX.out],by rw[HX.out];simp,?_⟩
       repeat(first|exact Ou _ _|refine Below.setCell ?_ (by first|exact Uc _|(simp;done)|(simp;omega)) _|refine below_drewN ?_ _|refine Below.drew ?_|refine Below.alloc ?_ (by first|exact Uc _|(simp;done)|(simp;omega)) _)
      ·go_wp2
       go_round
       case rel=>exact⟨k+1,by omega,by go_num,by rw[ha.out,h6.out],by rw[HG.out,HD.out,h6.out];simp;omega⟩
       case measure=>simp[intOf];omega
     ·have h6:Hid (d1=d):=by show _=_;rw[HK.out];simp[h40,h41]
      have hq:(c==40)=false:=by simpa using h40
      have ht:(c==41)=false:=by simpa using h41
      by_cases h5:5<d
      ·have HX:Hid (xm s=false):=by
        show _=_
        rw[HR.out,cK _ (k:=k+1) (by rw[HG.out,h6.out];simp;omega) (by omega)];simp
       go_wp2;refine bodyPost_ret (v:=.tuple #[.agg #[.string {data:= #[]},.string {data:= #[]}],.bool false]) (by simp[results,results116,go_sem]) rfl ⟨_,_,by rw[HX.out],by rw[HX.out];simp,?_⟩
       repeat(first|exact Ou _ _|refine Below.setCell ?_ (by first|exact Uc _|(simp;done)|(simp;omega)) _|refine below_drewN ?_ _|refine Below.drew ?_|refine Below.alloc ?_ (by first|exact Uc _|(simp;done)|(simp;omega)) _)
      ·go_wp2
       go_round
       case rel=>exact⟨k+1,by omega,by go_num,by rw[ha.out,h6.out],by rw[HG.out,HD.out,h6.out];simp;omega⟩
       case measure=>simp[intOf];omega
   ·obtain rfl:k=Z1.size:=by omega
    rw[HD.out]at HR;clear h7 hk hlt;by_cases hth:Z2=uB
    ·have hb:(Z2.toList==[116,104,105,115])=true:=by rw[←jq];exact aK Z2 uB hth
     rw[Up hth]at HR;clear hth;cases O1
     ·go_wp2_with(go_at_call 165;refine(h4 _).mono ?_;rintro e w3 ⟨rfl,h0⟩;obtain⟨h1,h3⟩:=vS h0;have h2:=h0.size;simp only[World.size_alloc,World.heap_drewN]at h1 h3 h2)
      refine bodyPost_ret (v:=.tuple #[.agg #[.string A1,.string Z1],.bool false]) (by simp[results,results116,go_sem,h1]) rfl ⟨A1,Z1,?_,λ_=>⟨HO.out.1.symm,HO.out.2.symm⟩,?_⟩
      ·rw[HR.out];simp
      ·refine Below.setCell ?_ (by simp) _
       refine Below.setCell ?_ (by simp) _
       refine Below.trans ?_ (h0.mono (by simp))
       repeat(first|exact Ou _ _|refine Below.setCell ?_ (by first|exact Uc _|(simp;done)|(simp;omega)) _|refine below_drewN ?_ _|refine Below.drew ?_|refine Below.alloc ?_ (by first|exact Uc _|(simp;done)|(simp;omega)) _)
     ·cases O2
      ·go_wp2_with(go_at_call 165;refine(h4 _).mono ?_;rintro e w3 ⟨rfl,h0⟩;obtain⟨h1,h3⟩:=vS h0;have h2:=h0.size;simp only[World.size_alloc,World.heap_drewN]at h1 h3 h2)
       refine bodyPost_ret (v:=.tuple #[.agg #[.string A1,.string Z1],.bool false]) (by simp[results,results116,go_sem,h1]) rfl ⟨A1,Z1,?_,λ_=>⟨HO.out.1.symm,HO.out.2.symm⟩,?_⟩
       ·rw[HR.out];simp
       ·refine Below.setCell ?_ (by simp) _
        refine Below.setCell ?_ (by simp) _
        refine Below.trans ?_ (h0.mono (by simp))
        repeat(first|exact Ou _ _|refine Below.setCell ?_ (by first|exact Uc _|(simp;done)|(simp;omega)) _|refine below_drewN ?_ _|refine Below.drew ?_|refine Below.alloc ?_ (by first|exact Uc _|(simp;done)|(simp;omega)) _)
      ·cases x
       ·go_wp2_with(go_at_call 165;refine(h4 _).mono ?_;rintro e w3 ⟨rfl,h0⟩;obtain⟨h1,h3⟩:=vS h0;have h2:=h0.size;simp only[World.size_alloc,World.heap_drewN]at h1 h3 h2)
        refine bodyPost_ret (v:=.tuple #[.agg #[.string A1,.string Z1],.bool false]) (by simp[results,results116,go_sem,h1]) rfl ⟨A1,Z1,?_,λ_=>⟨HO.out.1.symm,HO.out.2.symm⟩,?_⟩
        ·rw[HR.out];simp
        ·refine Below.setCell ?_ (by simp) _
         refine Below.setCell ?_ (by simp) _
         refine Below.trans ?_ (h0.mono (by simp))
         repeat(first|exact Ou _ _|refine Below.setCell ?_ (by first|exact Uc _|(simp;done)|(simp;omega)) _|refine below_drewN ?_ _|refine Below.drew ?_|refine Below.alloc ?_ (by first|exact Uc _|(simp;done)|(simp;omega)) _)
       ·cases y
        ·go_wp2_with(go_at_call 165;refine(h4 _).mono ?_;rintro e w3 ⟨rfl,h0⟩;obtain⟨h1,h3⟩:=vS h0;have h2:=h0.size;simp only[World.size_alloc,World.heap_drewN]at h1 h3 h2)
         refine bodyPost_ret (v:=.tuple #[.agg #[.string A1,.string Z1],.bool false]) (by simp[results,results116,go_sem,h1]) rfl ⟨A1,Z1,?_,λ_=>⟨HO.out.1.symm,HO.out.2.symm⟩,?_⟩
         ·rw[HR.out];simp
         ·refine Below.setCell ?_ (by simp) _
          refine Below.setCell ?_ (by simp) _
          refine Below.trans ?_ (h0.mono (by simp))
          repeat(first|exact Ou _ _|refine Below.setCell ?_ (by first|exact Uc _|(simp;done)|(simp;omega)) _|refine below_drewN ?_ _|refine Below.drew ?_|refine Below.alloc ?_ (by first|exact Uc _|(simp;done)|(simp;omega)) _)
        ·cases z
         ·go_wp2_with(go_at_call 165;refine(h4 _).mono ?_;rintro e w3 ⟨rfl,h0⟩;obtain⟨h1,h3⟩:=vS h0;have h2:=h0.size;simp only[World.size_alloc,World.heap_drewN]at h1 h3 h2)
          refine bodyPost_ret (v:=.tuple #[.agg #[.string A1,.string Z1],.bool false]) (by simp[results,results116,go_sem,h1]) rfl ⟨A1,Z1,?_,λ_=>⟨HO.out.1.symm,HO.out.2.symm⟩,?_⟩
          ·rw[HR.out];simp
          ·refine Below.setCell ?_ (by simp) _
           refine Below.setCell ?_ (by simp) _
           refine Below.trans ?_ (h0.mono (by simp))
           repeat(first|exact Ou _ _|refine Below.setCell ?_ (by first|exact Uc _|(simp;done)|(simp;omega)) _|refine below_drewN ?_ _|refine Below.drew ?_|refine Below.alloc ?_ (by first|exact Uc _|(simp;done)|(simp;omega)) _)
         ·go_wp2_with(go_at_call 165;refine(h4 _).mono ?_;rintro e w3 ⟨rfl,h0⟩;obtain⟨h1,h3⟩:=vS h0;have h2:=h0.size;simp only[World.size_alloc,World.heap_drewN]at h1 h3 h2)
          refine bodyPost_ret (v:=.tuple #[.agg #[.string A1,.string Z1],.bool false]) (by simp[results,results116,go_sem,h1]) rfl ⟨A1,Z1,?_,λ_=>⟨HO.out.1.symm,HO.out.2.symm⟩,?_⟩
          ·rw[HR.out];simp
          ·refine Below.setCell ?_ (by simp) _
           refine Below.setCell ?_ (by simp) _
           refine Below.trans ?_ (h0.mono (by simp))
           repeat(first|exact Ou _ _|refine Below.setCell ?_ (by first|exact Uc _|(simp;done)|(simp;omega)) _|refine below_drewN ?_ _|refine Below.drew ?_|refine Below.alloc ?_ (by first|exact Uc _|(simp;done)|(simp;omega)) _)
    ·have hb:(Z2.toList==[116,104,105,115])=false:=by rw[←jq];exact aL Z2 uB hth
     rw[Uo hth]at HR;clear hth;cases O1
     ·go_wp2_with(go_at_call 165;refine(h4 _).mono ?_;rintro e w3 ⟨rfl,h0⟩;obtain⟨h1,h3⟩:=vS h0;have h2:=h0.size;simp only[World.size_alloc,World.heap_drewN]at h1 h3 h2)
      refine bodyPost_ret (v:=.tuple #[.agg #[.string A1,.string Z1],.bool false]) (by simp[results,results116,go_sem,h1]) rfl ⟨A1,Z1,?_,λ_=>⟨HO.out.1.symm,HO.out.2.symm⟩,?_⟩
      ·rw[HR.out];simp
      ·refine Below.setCell ?_ (by simp) _
       refine Below.setCell ?_ (by simp) _
       refine Below.trans ?_ (h0.mono (by simp))
       repeat(first|exact Ou _ _|refine Below.setCell ?_ (by first|exact Uc _|(simp;done)|(simp;omega)) _|refine below_drewN ?_ _|refine Below.drew ?_|refine Below.alloc ?_ (by first|exact Uc _|(simp;done)|(simp;omega)) _)
     ·cases O2
      ·go_wp2_with(go_at_call 165;refine(h4 _).mono ?_;rintro e w3 ⟨rfl,h0⟩;obtain⟨h1,h3⟩:=vS h0;have h2:=h0.size;simp only[World.size_alloc,World.heap_drewN]at h1 h3 h2)
       refine bodyPost_ret (v:=.tuple #[.agg #[.string A1,.string Z1],.bool false]) (by simp[results,results116,go_sem,h1]) rfl ⟨A1,Z1,?_,λ_=>⟨HO.out.1.symm,HO.out.2.symm⟩,?_⟩
       ·rw[HR.out];simp
       ·refine Below.setCell ?_ (by simp) _
        refine Below.setCell ?_ (by simp) _
        refine Below.trans ?_ (h0.mono (by simp))
        repeat(first|exact Ou _ _|refine Below.setCell ?_ (by first|exact Uc _|(simp;done)|(simp;omega)) _|refine below_drewN ?_ _|refine Below.drew ?_|refine Below.alloc ?_ (by first|exact Uc _|(simp;done)|(simp;omega)) _)
      ·cases x
       ·go_wp2_with(go_at_call 165;refine(h4 _).mono ?_;rintro e w3 ⟨rfl,h0⟩;obtain⟨h1,h3⟩:=vS h0;have h2:=h0.size;simp only[World.size_alloc,World.heap_drewN]at h1 h3 h2)
        refine bodyPost_ret (v:=.tuple #[.agg #[.string A1,.string Z1],.bool false]) (by simp[results,results116,go_sem,h1]) rfl ⟨A1,Z1,?_,λ_=>⟨HO.out.1.symm,HO.out.2.symm⟩,?_⟩
        ·rw[HR.out];simp
        ·refine Below.setCell ?_ (by simp) _
         refine Below.setCell ?_ (by simp) _
         refine Below.trans ?_ (h0.mono (by simp))
         repeat(first|exact Ou _ _|refine Below.setCell ?_ (by first|exact Uc _|(simp;done)|(simp;omega)) _|refine below_drewN ?_ _|refine Below.drew ?_|refine Below.alloc ?_ (by first|exact Uc _|(simp;done)|(simp;omega)) _)
       ·cases y
        ·go_wp2_with(go_at_call 165;refine(h4 _).mono ?_;rintro e w3 ⟨rfl,h0⟩;obtain⟨h1,h3⟩:=vS h0;have h2:=h0.size;simp only[World.size_alloc,World.heap_drewN]at h1 h3 h2)
         refine bodyPost_ret (v:=.tuple #[.agg #[.string A1,.string Z1],.bool false]) (by simp[results,results116,go_sem,h1]) rfl ⟨A1,Z1,?_,λ_=>⟨HO.out.1.symm,HO.out.2.symm⟩,?_⟩
         ·rw[HR.out];simp
         ·refine Below.setCell ?_ (by simp) _
          refine Below.setCell ?_ (by simp) _
          refine Below.trans ?_ (h0.mono (by simp))
          repeat(first|exact Ou _ _|refine Below.setCell ?_ (by first|exact Uc _|(simp;done)|(simp;omega)) _|refine below_drewN ?_ _|refine Below.drew ?_|refine Below.alloc ?_ (by first|exact Uc _|(simp;done)|(simp;omega)) _)
        ·cases z
         ·go_wp2_with(go_at_call 165;refine(h4 _).mono ?_;rintro e w3 ⟨rfl,h0⟩;obtain⟨h1,h3⟩:=vS h0;have h2:=h0.size;simp only[World.size_alloc,World.heap_drewN]at h1 h3 h2)
          refine bodyPost_ret (v:=.tuple #[.agg #[.string A1,.string Z1],.bool false]) (by simp[results,results116,go_sem,h1]) rfl ⟨A1,Z1,?_,λ_=>⟨HO.out.1.symm,HO.out.2.symm⟩,?_⟩
          ·rw[HR.out];simp
          ·refine Below.setCell ?_ (by simp) _
           refine Below.setCell ?_ (by simp) _
           refine Below.trans ?_ (h0.mono (by simp))
           repeat(first|exact Ou _ _|refine Below.setCell ?_ (by first|exact Uc _|(simp;done)|(simp;omega)) _|refine below_drewN ?_ _|refine Below.drew ?_|refine Below.alloc ?_ (by first|exact Uc _|(simp;done)|(simp;omega)) _)
         ·go_wp2_with(go_at_call 165;refine(h4 _).mono ?_;rintro e w3 ⟨rfl,h0⟩;obtain⟨h1,h3⟩:=vS h0;have h2:=h0.size;simp only[World.size_alloc,World.heap_drewN]at h1 h3 h2)
          refine bodyPost_ret (v:=.tuple #[.agg #[.string A1,.string Z1],.bool true]) (by simp[results,results116,go_sem,h1]) rfl ⟨A1,Z1,?_,λ_=>⟨HO.out.1.symm,HO.out.2.symm⟩,?_⟩
          ·rw[HR.out];simp
          ·refine Below.setCell ?_ (by simp) _
           refine Below.setCell ?_ (by simp) _
           refine Below.trans ?_ (h0.mono (by simp))
           repeat(first|exact Ou _ _|refine Below.setCell ?_ (by first|exact Uc _|(simp;done)|(simp;omega)) _|refine below_drewN ?_ _|refine Below.drew ?_|refine Below.alloc ?_ (by first|exact Uc _|(simp;done)|(simp;omega)) _)
