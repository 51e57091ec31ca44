import Derived.Test.YtalmoiogbdahcaaGreatChecked
import Derived.WalkLawsBesides
open Go.Proofs.Tryz
namespace Go.Proofs.YtalmoiogbdahcaaGreat
set_option maxRecDepth 100000
set_option maxHeartbeats 8000000
open Ieee
def fb(n:Nat):Nat:=FloatKind.f64.nearest (n:Int)
def upF(n:Nat):Nat:=if n=0 then 1074 else 52-n.log2
def rdF(n:Nat):Datum:=.number false (n * 2 ^ upF n) (-(upF n:Int))
def bB:Nat->Nat->Bool
 |0,n=>decide (FloatKind.f64.decode (fb n)=rdF n)
 |d+1,n=>bB d (2 * n) && bB d (2 * n+1)
theorem Jq: ∀(d n m:Nat),bB d n=true->n * 2 ^ d<=m->m<(n+1) * 2 ^ d->FloatKind.f64.decode (fb m)=rdF m:=by
 intro d
 induction d with
 |zero=>
  intro n m h h1 h2;have:m=n:=by omega
  subst this;exact of_decide_eq_true h
 |succ d ih=>
  intro n m h h1 h2;rw[bB,Bool.and_eq_true]at h;rw[Nat.pow_succ]at h1 h2;by_cases hm:m<(2 * n+1) * 2 ^ d
  ·exact ih (2 * n) m h.1 (by rw[Nat.mul_comm 2 n,Nat.mul_assoc,Nat.mul_comm 2];exact h1) hm
  ·refine ih (2 * n+1) m h.2 (by omega) ?_
   have:(2 * n+1+1) * 2 ^ d=(n+1) * (2 ^ d * 2):=by
    rw[show 2 * n+1+1=(n+1) * 2 by omega,Nat.mul_assoc,Nat.mul_comm 2]
   rw[this];exact h2
theorem KY:bB 13 0=true:=by decide +kernel
variable{n:Nat}
theorem rD(h:n<8192):FloatKind.f64.decode (fb n)=rdF n:=Jq 13 0 n KY (by omega) (by omega)
theorem bC(n:Nat):rdF n=.number false (n * 2 ^ upF n) (-(upF n:Int)):=rfl
theorem sH(n a b:Nat):signed false (n * 2 ^ a) b=((n * 2 ^ (a+b):Nat):Int):=by
 unfold signed;rw[if_neg (by decide),Nat.shiftLeft_eq,Nat.pow_add,Nat.mul_assoc]
theorem bD{a b:Nat}(ha:a<8192)(hb:b<8192):(FloatKind.f64.format.order (fb a) (fb b)==some .eq)=decide (a=b):=by
 have e1:FloatKind.f64.format.read (fb a)=rdF a:=rD ha;have e2:FloatKind.f64.format.read (fb b)=rdF b:=rD hb;unfold Format.order;rw[e1,e2,bC,bC];have e3:Datum.order (.number false (a * 2 ^ upF a) (-(upF a:Int))) (.number false (b * 2 ^ upF b) (-(upF b:Int)))=some (compare ((a * 2 ^ max (upF a) (upF b):Nat):Int) ((b * 2 ^ max (upF a) (upF b):Nat):Int)):=by
  show some (compare (signed false (a * 2 ^ upF a) (-(upF a:Int)-min (-(upF a:Int)) (-(upF b:Int))).toNat) (signed false (b * 2 ^ upF b) (-(upF b:Int)-min (-(upF a:Int)) (-(upF b:Int))).toNat))=_
  rw[sH,sH];have h1:upF a+(-(upF a:Int)-min (-(upF a:Int)) (-(upF b:Int))).toNat=max (upF a) (upF b):=by omega
  have h2:upF b+(-(upF b:Int)-min (-(upF a:Int)) (-(upF b:Int))).toNat=max (upF a) (upF b):=by omega
  rw[h1,h2]
 rw[e3];have hp:0<2 ^ max (upF a) (upF b):=Nat.two_pow_pos _;generalize 2 ^ max (upF a) (upF b)=c at hp ⊢;by_cases h:a=b
 ·subst h;rw[decide_eq_true rfl];simp
 ·rw[decide_eq_false h]
  have h0:((a * c:Nat):Int)≠((b * c:Nat):Int):=λe=>h (Nat.eq_of_mul_eq_mul_right hp (by exact_mod_cast e))
  cases hc:compare ((a * c:Nat):Int) ((b * c:Nat):Int)
  ·rfl
  ·exact absurd (Int.compare_eq_eq.1 hc) h0
  ·rfl
theorem Jr(h:n<8192):(FloatKind.f64.decode (fb n)).toInt .zero=some (n:Int):=by
 rw[rD h,bC];show some (signed false (Toward.zero.cut false ((n * 2 ^ upF n)<<<(-(upF n:Int)).toNat) (-(-(upF n:Int))).toNat) 0)=_
 have e0:(-(upF n:Int)).toNat=0:=by omega
 have e1:(-(-(upF n:Int))).toNat=upF n:=by omega
 rw[e0,e1,Nat.shiftLeft_zero];unfold Toward.cut signed;dsimp only;rw[if_neg (by decide),Nat.shiftLeft_zero]
 by_cases hn:n=0
 ·subst hn;simp
 ·have hm:min (upF n) ((n * 2 ^ upF n).log2+2)=upF n:=by
   refine Nat.min_eq_left ?_;have:upF n<=(n * 2 ^ upF n).log2:=by
    rw[Nat.le_log2 (by have:=Nat.two_pow_pos (upF n);exact Nat.mul_ne_zero hn (by omega))]
    exact Nat.le_mul_of_pos_left _ (Nat.pos_of_ne_zero hn)
   omega
  rw[hm,Nat.one_shiftLeft,Nat.mul_div_cancel _ (Nat.two_pow_pos _)];simp
