import Derived.Test.YtalmoiogbdahcaaGreatARefA
import Derived.Lib.Strings
open Go.Proofs.Tryz
namespace Go.Proofs.YtalmoiogbdahcaaGreat
set_option maxRecDepth 100000
set_option maxHeartbeats 8000000
open Go.RowKit
def lC(c:Int)(n:Int):Int:=(if c<0 then-(c+1)else c) % n
theorem JJ(c n:Int)(h:0<n):0<=lC c n/\lC c n<n:=⟨Int.emod_nonneg _ (by omega),Int.emod_lt_of_pos _ h⟩
theorem JK(c n:Int)(w:World)(h1: -9223372036854775808<=c)(h2:c<=9223372036854775807)(h3:0<n)(h4:n<=9223372036854775807):
  Calls prog 75 #[.int .i64 c,.int .i64 n] w λe w'=>e=.returned (.int .i64 (lC c n))/\w'=w:=by
 by_cases h:c<0
 ·go_enter func75,ntmps75
  go_wp2;go_ret;refine⟨zX ?_,rfl⟩;unfold lC;rw[if_pos h,←Int.tmod_eq_emod_of_nonneg (by omega),Int.neg_tmod]
 ·go_enter func75,ntmps75
  go_wp2;go_ret;refine⟨zX ?_,rfl⟩;unfold lC;rw[if_neg (by omega)]
def zr(i:Nat):BA:={data:=(List.replicate (i+1) 47).toArray}
theorem nh(i:Nat):(zr i).size=i+1:=by simp[zr,ByteArray.size]
theorem ns(i:Nat):zr i++{data:= #[47]}=zr (i+1):=by
 apply ByteArray.ext;apply Array.ext';simp[zr,List.replicate_succ']
theorem dK(i:Nat)(w:World)(h:i<=140737488355328):
  Calls prog 81 #[.int .i64 i] w λe w'=>e=.returned (.string (zr i))/\w'=w:=by
 go_enter func81,ntmps81;go_wp2
 go_loop [3,4] (λs k=> ∃n:Nat,n<=i/\k=.int .i64 n/\s=.string (zr n)) (λ_ k=>i-(intOf k).toNat)
 case atStart=>exact⟨0,Um _,rfl,rfl⟩
 case round=>
  obtain⟨n,hn,rfl,rfl⟩:=hrel;have h0:=nh n;have HS:Hid (zr n++{data:= #[47]}=zr (n+1)):=ns n;by_cases hlt:n<i
  ·generalize zr n=s at *
   go_wp2
   go_round
   case rel=>exact⟨n+1,by omega,by go_num,by rw[HS.out]⟩
   case measure=>simp[intOf];omega
  ·obtain rfl:n=i:=by omega
   go_wp2;go_ret;exact⟨rfl,rfl⟩
def qE(w:World)(v:Value)(xs:List BA):Prop:=
 (v=.slice none 0 0/\xs=[])\/ ∃b off cap,v=.slice (some ⟨b,off,none⟩) xs.length cap/\ ∀i x,xs[i]?=some x->w.cell? ⟨b,off+i,none⟩=some (.string x)
def jB(xs:List BA)(m:BA):Bool:=xs.all λx=>x.toList==m.toList
theorem JL(v:Value)(xs:List BA)(m:BA)(w:World)(h:qE w v xs)(hl:xs.length<=maxLen):
  Calls prog 82 #[v,.string m] w λe w'=>e=.returned (.bool (jB xs m))/\w'=w:=by
 unfold maxLen at hl;rcases h with⟨rfl,rfl⟩|⟨b,off,cap,rfl,hc⟩
 ·go_enter func82,ntmps82
  go_wp2;refine wp_loop_rounds 1 ?_;rw[rounds_succ];go_wp2;go_ret;exact⟨rfl,rfl⟩
 ·go_enter func82,ntmps82
  go_wp2
  go_loop [5] (λi=> ∃k:Nat,k<=xs.length/\i=.int .i64 k/\jB (xs.take k) m=true) (λi=>xs.length-(intOf i).toNat)
  case atStart=>exact⟨0,Um _,rfl,rfl⟩
  case round=>
   obtain⟨k,hk,rfl,hh⟩:=hrel;have HH:Hid (jB (xs.take k) m=true):=hh;clear hh;by_cases hlt:k<xs.length
   ·have h0:=hc k xs[k] (OC hlt)
    have HS:Hid (jB (xs.take (k+1)) m=(jB (xs.take k) m && (xs[k].toList==m.toList))):=by
     show _=_
     rw[O8 hlt];unfold jB;rw[List.all_append];simp
    clear hc;generalize hx:xs[k]=x at *;by_cases hq:(x.toList==m.toList)=true
    ·go_wp2
     go_round
     case rel=>exact⟨k+1,by omega,by go_num,by rw[HS.out,HH.out,hq];rfl⟩
     case measure=>simp[intOf];omega
    ·have hq:(x.toList==m.toList)=false:=by simpa using hq
     go_wp2;go_ret;refine⟨zo ?_,rfl⟩
     symm
     have h2:jB (xs.take (k+1)) m=false:=by rw[HS.out,hq];simp
     unfold jB at h2 ⊢;rw[List.all_eq_false]at h2 ⊢;obtain⟨y,hy,h3⟩:=h2;exact⟨y,List.mem_of_mem_take hy,h3⟩
   ·go_wp2
    go_ret;have:=HH.out;rw[O7 (by omega)]at this
    exact⟨zo this.symm,rfl⟩
theorem dc(w:World)(a b:Nat):(w.drewN a).drewN b=w.drewN (a+b):=by
 simp[World.drewN,O9]
def lD(xs ys:List BA):Bool:=decide (xs=ys)
theorem jn(a b:BA):(a.toList==b.toList)=decide (a=b):=by
 rw[Lib.toList_data,Lib.toList_data];by_cases h:a=b
 ·subst h;simp
 ·rw[Uo h,beq_eq_false_iff_ne];intro e;exact h (ByteArray.ext (Array.ext' e))
theorem mK(v u:Value)(xs ys:List BA)(w:World)(h:qE w v xs)(g:qE w u ys)(hl:xs.length<=maxLen)(gl:ys.length<=maxLen):
  Calls prog 77 #[v,u] w λe w'=>e=.returned (.bool (lD xs ys))/\ ∃n,w'=w.drewN n:=by
 unfold maxLen at hl gl;by_cases h0:xs.length=ys.length
 ·rcases h with⟨rfl,rfl⟩|⟨b,off,cap,rfl,hc⟩
  ·have hy:ys=[]:=Oy h0.symm
   subst hy;rcases g with⟨rfl,-⟩|⟨b',off',cap',rfl,gc⟩
   all_goals
    go_enter func77,ntmps77;go_wp2;refine wp_loop_rounds 1 ?_;rw[rounds_succ];go_wp2;go_ret;exact⟨rfl,⟨0,rfl⟩⟩
  ·rcases g with⟨rfl,rfl⟩|⟨b',off',cap',rfl,gc⟩
   ·have hx:xs=[]:=Oy h0
    subst hx;go_enter func77,ntmps77;go_wp2;refine wp_loop_rounds 1 ?_;rw[rounds_succ];go_wp2;go_ret;exact⟨rfl,⟨0,rfl⟩⟩
   ·obtain⟨n,hn⟩: ∃n,xs.length=n:=⟨_,rfl⟩
    have HX:Hid (xs.length=n):=hn;have HY:Hid (ys.length=n):=by show _=_;omega
    rw[←h0,hn];rw[hn]at hl;clear hn h0 gl;go_enter func77,ntmps77;go_wp2
    go_loopw [5] (λi wr=> ∃k d:Nat,k<=n/\i=.int .i64 k/\wr=w.drewN d/\xs.take k=ys.take k) (λi _=>n-(intOf i).toNat)
    case atStart=>exact⟨0,0,Um _,rfl,rfl,rfl⟩
    case round=>
     obtain⟨k,d,hk,rfl,rfl,hh⟩:=hrel;have HH:Hid (xs.take k=ys.take k):=hh;clear hh;by_cases hlt:k<n
     ·have h3:k<xs.length:=by have:=HX.out;omega
      have h4:k<ys.length:=by have:=HY.out;omega
      obtain⟨x,hx⟩: ∃x,xs[k]=x:=⟨_,rfl⟩;obtain⟨y,hy⟩: ∃y,ys[k]=y:=⟨_,rfl⟩;have h1:=hc k x (by rw[OC h3,hx])
      have h2:=gc k y (by rw[OC h4,hy])
      have HZ:Hid (xs.take (k+1)=xs.take k++[x]/\ys.take (k+1)=ys.take k++[y]):=⟨by rw[O8 h3,hx],by rw[O8 h4,hy]⟩
      have HW:Hid (xs=ys->x=y):=by
       intro e;subst e;rw[←hx,←hy]
      clear h3 h4 hx hy hc gc;by_cases hq:(x.toList==y.toList)=true
      ·go_wp2
       go_quiet (fail)
       go_wp2
       go_roundw
       case rel=>exact⟨k+1,d+nq,by omega,by go_num,rfl,by rw[HZ.out.1,HZ.out.2,HH.out];rw[jn,decide_eq_true_eq]at hq;rw[hq]⟩
       case measure=>simp[intOf];omega
      ·have hq:(x.toList==y.toList)=false:=by simpa using hq
       go_wp2
       go_quiet (fail)
       go_wp2;go_ret;refine⟨zo ?_,⟨d+nq,dc w d nq⟩⟩
       symm
       refine Uo (λe=>?_);rw[jn,decide_eq_false_iff_not]at hq;exact hq (HW.out e)
     ·go_wp2
      go_ret;refine⟨zo ?_,⟨_,rfl⟩⟩;have:=HH.out;rw[O7 (by have:=HX.out;omega),O7 (by have:=HY.out;omega)]at this
      exact(Up this).symm
 ·have hb:((xs.length:Int) !=(ys.length:Int))=true:=by simp;omega
  have hs:lD xs ys=false:=Uo (λe=>h0 (by rw[e]))
  rw[hs];clear hs;rcases h with⟨rfl,rfl⟩|⟨b,off,cap,rfl,hc⟩
  ·rcases g with⟨rfl,rfl⟩|⟨b',off',cap',rfl,gc⟩
   ·exact absurd rfl h0
   ·have hb:((0:Int) !=(ys.length:Int))=true:=hb
    go_enter func77,ntmps77;go_wp2;go_ret;exact⟨rfl,⟨0,rfl⟩⟩
  ·rcases g with⟨rfl,rfl⟩|⟨b',off',cap',rfl,gc⟩
   ·have hb:((xs.length:Int) !=(0:Int))=true:=hb
    go_enter func77,ntmps77;go_wp2;go_ret;exact⟨rfl,⟨0,rfl⟩⟩
   ·go_enter func77,ntmps77
    go_wp2;go_ret;exact⟨rfl,⟨0,rfl⟩⟩
