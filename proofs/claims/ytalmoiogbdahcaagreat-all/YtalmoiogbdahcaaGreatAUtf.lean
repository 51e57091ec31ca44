import Derived.Test.YtalmoiogbdahcaaGreatARefA
open Go.Proofs.Tryz
namespace Go.Proofs.YtalmoiogbdahcaaGreat
set_option maxRecDepth 100000
set_option maxHeartbeats 8000000
open Go.RowKit
theorem um(s:BA)(i:Nat)(h:i<s.size):s.get! i=s[i]'h:=by
 simp[ByteArray.get!,getElem!_pos,h]
 rfl
theorem zT(s:BA)(i:Nat)(h:i<s.size):s.data.toList.drop i=s[i]'h::s.data.toList.drop (i+1):=by
 rw[List.drop_eq_getElem_cons (by simpa using h)];rfl
theorem iU(x:Nat)(h:x<256):(x/64==2)=(decide (128<=(x:Int)) && decide ((x:Int)<=191)):=by
 rw[Bool.eq_iff_iff];simp;omega
theorem gP(n:Nat)(a l:Int)(r:List UInt8)(h:r.length<n):ze n a l r=0:=by unfold ze;rw[if_pos h]
theorem Of(a l:Int)(x:UInt8)(r:List UInt8):ze 1 a l (x::r)=if(128<=(x.toNat:Int)/\(x.toNat:Int)<=191)/\zF l (64 * a+x.toNat-128)=false then 2 else 0:=by
 unfold ze;rw[if_neg (by simp)]
 by_cases h1:(128<=(x.toNat:Int)/\(x.toNat:Int)<=191)
 ·rw[if_neg (by simp[zA];omega)]
  rw[show xR a (List.take 1 (x::r))=64 * a+x.toNat-128 from rfl];by_cases hc:zF l (64 * a+x.toNat-128)=true
  ·rw[if_pos hc,if_neg (by simp[hc])]
  ·rw[if_neg hc,if_pos ⟨h1,by simpa using hc⟩]
 ·rw[if_pos (by simp[zA];omega),if_neg (λh=>h1 h.1)]
theorem KG(a l:Int)(x y:UInt8)(r:List UInt8):ze 2 a l (x::y::r)=if((128<=(x.toNat:Int)/\(x.toNat:Int)<=191)/\(128<=(y.toNat:Int)/\(y.toNat:Int)<=191))/\zF l (64 * (64 * a+x.toNat-128)+y.toNat-128)=false then 3 else 0:=by
 unfold ze;rw[if_neg (by simp)]
 by_cases h1:((128<=(x.toNat:Int)/\(x.toNat:Int)<=191)/\(128<=(y.toNat:Int)/\(y.toNat:Int)<=191))
 ·rw[if_neg (by simp[zA];omega)]
  rw[show xR a (List.take 2 (x::y::r))=64 * (64 * a+x.toNat-128)+y.toNat-128 from rfl];by_cases hc:zF l (64 * (64 * a+x.toNat-128)+y.toNat-128)=true
  ·rw[if_pos hc,if_neg (by simp[hc])]
  ·rw[if_neg hc,if_pos ⟨h1,by simpa using hc⟩]
 ·rw[if_pos (by simp[zA];omega),if_neg (λh=>h1 h.1)]
theorem Og(a l:Int)(x y z:UInt8)(r:List UInt8):ze 3 a l (x::y::z::r)=if((128<=(x.toNat:Int)/\(x.toNat:Int)<=191)/\(128<=(y.toNat:Int)/\(y.toNat:Int)<=191)/\(128<=(z.toNat:Int)/\(z.toNat:Int)<=191))/\zF l (64 * (64 * (64 * a+x.toNat-128)+y.toNat-128)+z.toNat-128)=false then 4 else 0:=by
 unfold ze;rw[if_neg (by simp)]
 by_cases h1:((128<=(x.toNat:Int)/\(x.toNat:Int)<=191)/\(128<=(y.toNat:Int)/\(y.toNat:Int)<=191)/\(128<=(z.toNat:Int)/\(z.toNat:Int)<=191))
 ·rw[if_neg (by simp[zA];omega)]
  rw[show xR a (List.take 3 (x::y::z::r))=64 * (64 * (64 * a+x.toNat-128)+y.toNat-128)+z.toNat-128 from rfl];by_cases hc:zF l (64 * (64 * (64 * a+x.toNat-128)+y.toNat-128)+z.toNat-128)=true
  ·rw[if_pos hc,if_neg (by simp[hc])]
  ·rw[if_neg hc,if_pos ⟨h1,by simpa using hc⟩]
 ·rw[if_pos (by simp[zA];omega),if_neg (λh=>h1 h.1)]
theorem mq(s:BA)(p:Nat)(h:p<s.size):
  (zd (s.data.toList.drop p)=0/\Utf8.decode s p=(65533,1)/\128<=(s[p]'h).toNat)\/
  (zd (s.data.toList.drop p)=(Utf8.decode s p).2/\1<=(Utf8.decode s p).2/\Utf8.valid (Utf8.decode s p).1=true/\
    (((s[p]'h).toNat<128/\(Utf8.decode s p).1=(s[p]'h).toNat)\/(128<=(s[p]'h).toNat/\128<=(Utf8.decode s p).1))):=by
 have hi:=(s[p]'h).toNat_lt;have e0:s.get! (p+0)=s[p]'h:=um s p h;generalize hx:s[p]'h=x0 at *;rw[zT s p h,hx,yv];unfold Utf8.decode;simp only[e0];generalize x0.toNat=b0 at *;by_cases h1:b0<128
 ·right
  simp only[h1,if_true];rw[if_pos (by omega)]
  simp[Utf8.valid];omega
 rw[if_neg (by omega),if_neg h1]
 have hd:(s.data.toList.drop (p+1)).length=s.size-(p+1):=by simp
 by_cases hA:b0/32=6
 ·have h7:(b0/32==6)=true:=by simpa using hA
  have h6:(b0/16==14)=false:=by rw[beq_eq_false_iff_ne];omega
  have h5:(b0/8==30)=false:=by rw[beq_eq_false_iff_ne];omega
  simp only[h7,h6,h5,Bool.true_and,Bool.false_and,Bool.false_eq_true,if_false];by_cases h0:p+1<s.size
  ·have e1:s.get! (p+1)=s[p+1]'h0:=um s _ h0
   rw[zT s (p+1) h0];have h8:=(s[p+1]'h0).toNat_lt;simp only[e1,h0,decide_true,Bool.true_and];rw[iU _ h8,Of];generalize (s[p+1]'h0).toNat=b1 at *;by_cases hg:(194:Int)<=b0/\((128:Int)<=b1/\(b1:Int)<=191)
   ·right
    have q1:(128:Int)<=b1:=hg.2.1;have q2:(b1:Int)<=191:=hg.2.2;rw[if_pos (by omega:(194:Int)<=b0/\(b0:Int)<224),if_pos (⟨hg.2,by simp[zF];omega⟩:((128:Int)<=b1/\(b1:Int)<=191)/\zF 0 (64 * ((b0:Int)-192)+b1-128)=false),if_pos (by simp;omega:(decide (128<=(b1:Int)) && decide ((b1:Int)<=191))=true),if_pos (by omega:b0 % 32 * 64+b1 % 64≥128)]
    simp[Utf8.valid];omega
   ·left
    refine⟨?_,?_,by omega⟩
    ·split
     ·rw[if_neg (by omega)]
     ·rw[if_neg (by omega),if_neg (by omega)]
    ·split
     ·rw[if_neg (by simp at *;omega)];rfl
     ·rfl
  ·left
   simp only[h0,decide_false,Bool.false_and,Bool.false_eq_true,if_false];refine⟨?_,rfl,by omega⟩
   rw[gP 1 _ _ _ (by omega)]
   split
   ·rfl
   ·rw[if_neg (by omega),if_neg (by omega)]
 ·have h7:(b0/32==6)=false:=by simpa using hA
  rw[if_neg (by omega: ¬((194:Int)<=b0/\(b0:Int)<224))]
  by_cases hB:b0/16=14
  ·have h6:(b0/16==14)=true:=by simpa using hB
   have h5:(b0/8==30)=false:=by rw[beq_eq_false_iff_ne];omega
   rw[if_pos (by omega:((224:Int)<=b0/\(b0:Int)<240))]
   simp only[h7,h6,h5,Bool.true_and,Bool.false_and,Bool.false_eq_true,if_false];by_cases h3:p+2<s.size
   ·have h0:p+1<s.size:=by omega
    have e1:s.get! (p+1)=s[p+1]'h0:=um s _ h0;have e2:s.get! (p+2)=s[p+2]'h3:=um s _ h3;rw[zT s (p+1) h0,zT s (p+1+1) h3];have h8:=(s[p+1]'h0).toNat_lt;have hb:=(s[p+2]'h3).toNat_lt;simp only[e1,e2,h0,h3,decide_true,Bool.true_and];rw[iU _ h8,iU _ hb,KG];generalize (s[p+1]'h0).toNat=b1 at *;generalize (s[p+2]'h3).toNat=b2 at *;by_cases hg:((128:Int)<=b1/\(b1:Int)<=191)/\((128:Int)<=b2/\(b2:Int)<=191)
    ·obtain⟨⟨q1,q2⟩,⟨q3,q4⟩⟩:=hg
     have h9:(64 * (64 * ((b0:Int)-224)+b1-128)+b2-128)=((b0 % 16 * 4096+b1 % 64 * 64+b2 % 64:Nat):Int):=by omega
     rw[h9,if_pos (by simp;omega:(decide (128<=(b1:Int)) && decide ((b1:Int)<=191) && (decide (128<=(b2:Int)) && decide ((b2:Int)<=191)))=true)]
     have he:b0 % 16 * 4096+b1 % 64 * 64+b2 % 64<=65535:=by omega
     generalize b0 % 16 * 4096+b1 % 64 * 64+b2 % 64=c at *;by_cases h2:zF 2048 (c:Int)=false
     ·right
      have hv:2048<=c/\(c<55296\/57344<=c):=by simp[zF]at h2;omega
      have h4:Utf8.valid (c:Int)=true:=by simp[Utf8.valid];omega
      rw[if_pos (⟨⟨⟨q1,q2⟩,⟨q3,q4⟩⟩,h2⟩:((128<=(b1:Int)/\(b1:Int)<=191)/\(128<=(b2:Int)/\(b2:Int)<=191))/\zF 2048 (c:Int)=false),if_pos (by simp[h4];omega:(decide (c≥2048) && Utf8.valid (c:Int))=true)]
      simp[h4];omega
     ·left
      have hv:c<2048\/(55296<=c/\c<57344):=by simp[zF]at h2;omega
      have h4:(decide (c≥2048) && Utf8.valid (c:Int))=false:=by simp[Utf8.valid];omega
      rw[if_neg (λh=>h2 h.2: ¬(((128<=(b1:Int)/\(b1:Int)<=191)/\(128<=(b2:Int)/\(b2:Int)<=191))/\zF 2048 (c:Int)=false)),if_neg (by rw[h4];simp: ¬(decide (c≥2048) && Utf8.valid (c:Int))=true)]
      exact⟨rfl,rfl,by omega⟩
    ·left
     refine⟨if_neg (λh=>hg h.1),?_,by omega⟩
     rw[if_neg (by simp;omega)];rfl
   ·left
    refine⟨gP 2 _ _ _ (by omega),?_,by omega⟩
    simp only[h3,decide_false,Bool.false_and,Bool.and_false,Bool.false_eq_true,if_false]
    rfl
  ·have h6:(b0/16==14)=false:=by simpa using hB
   rw[if_neg (by omega: ¬((224:Int)<=b0/\(b0:Int)<240))]
   by_cases hC:b0/8=30
   ·have h5:(b0/8==30)=true:=by simpa using hC
    simp only[h7,h6,h5,Bool.true_and,Bool.false_and,Bool.false_eq_true,if_false];by_cases h3s:p+3<s.size
    ·have h0:p+1<s.size:=by omega
     have h3:p+2<s.size:=by omega
     have e1:s.get! (p+1)=s[p+1]'h0:=um s _ h0;have e2:s.get! (p+2)=s[p+2]'h3:=um s _ h3;have e3:s.get! (p+3)=s[p+3]'h3s:=um s _ h3s;rw[zT s (p+1) h0,zT s (p+1+1) h3,zT s (p+1+1+1) h3s];have h8:=(s[p+1]'h0).toNat_lt;have hb:=(s[p+2]'h3).toNat_lt;have hc:=(s[p+3]'h3s).toNat_lt;simp only[e1,e2,e3,h0,h3,h3s,decide_true,Bool.true_and];rw[iU _ h8,iU _ hb,iU _ hc,Og];generalize (s[p+1]'h0).toNat=b1 at *;generalize (s[p+2]'h3).toNat=b2 at *;generalize (s[p+3]'h3s).toNat=b3 at *;by_cases hg:((128:Int)<=b1/\(b1:Int)<=191)/\((128:Int)<=b2/\(b2:Int)<=191)/\((128:Int)<=b3/\(b3:Int)<=191)
     ·obtain⟨⟨q1,q2⟩,⟨q3,q4⟩,⟨q5,q6⟩⟩:=hg
      have h9:(64 * (64 * (64 * ((b0:Int)-240)+b1-128)+b2-128)+b3-128)=((b0 % 8 * 262144+b1 % 64 * 4096+b2 % 64 * 64+b3 % 64:Nat):Int):=by omega
      rw[h9];rw[if_pos (by simp;omega:((decide (128<=(b1:Int)) && decide ((b1:Int)<=191) && (decide (128<=(b2:Int)) && decide ((b2:Int)<=191)) && (decide (128<=(b3:Int)) && decide ((b3:Int)<=191)))=true))]
      have hf:b0<245\/1310720<=b0 % 8 * 262144+b1 % 64 * 4096+b2 % 64 * 64+b3 % 64:=by omega
      generalize b0 % 8 * 262144+b1 % 64 * 4096+b2 % 64 * 64+b3 % 64=c at *;by_cases h2:b0<245/\zF 65536 (c:Int)=false
      ·right
       have hv:65536<=c/\c<=1114111:=by have:=h2.2;simp[zF]at this;omega
       have h4:Utf8.valid (c:Int)=true:=by simp[Utf8.valid];omega
       rw[if_pos (by omega:((240:Int)<=b0/\(b0:Int)<245)),if_pos (⟨⟨⟨q1,q2⟩,⟨q3,q4⟩,⟨q5,q6⟩⟩,h2.2⟩:((128<=(b1:Int)/\(b1:Int)<=191)/\(128<=(b2:Int)/\(b2:Int)<=191)/\(128<=(b3:Int)/\(b3:Int)<=191))/\zF 65536 (c:Int)=false),if_pos (by simp[h4];omega:(decide (c≥65536) && Utf8.valid (c:Int))=true)]
       simp[h4];omega
      ·left
       have hv:c<65536\/1114111<c:=by
        by_cases ha:b0<245
        ·have: ¬zF 65536 (c:Int)=false:=λh=>h2 ⟨ha,h⟩
         simp[zF]at this;omega
        ·omega
       have h4:(decide (c≥65536) && Utf8.valid (c:Int))=false:=by simp[Utf8.valid];omega
       refine⟨?_,?_,by omega⟩
       ·split
        ·rw[if_neg (λh=>h2 ⟨by omega,h.2⟩)]
        ·rfl
       ·rw[if_neg (by rw[h4];simp)];rfl
     ·left
      refine⟨?_,?_,by omega⟩
      ·split
       ·rw[if_neg (λh=>hg h.1)]
       ·rfl
      ·rw[if_neg (by simp;omega)];rfl
    ·left
     refine⟨?_,?_,by omega⟩
     ·split
      ·exact gP 3 _ _ _ (by omega)
      ·rfl
     ·simp only[h3s,decide_false,Bool.false_and,Bool.and_false,Bool.false_eq_true,if_false]
      rfl
   ·have h5:(b0/8==30)=false:=by simpa using hC
    left
    rw[if_neg (by omega: ¬((240:Int)<=b0/\(b0:Int)<245))]
    simp only[h7,h6,h5,Bool.false_and,Bool.false_eq_true,if_false];exact⟨trivial,rfl,by omega⟩
