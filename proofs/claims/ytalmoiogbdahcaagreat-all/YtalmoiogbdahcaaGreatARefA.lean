import Derived.Test.YtalmoiogbdahcaaGreatProg
import Derived.WalkSpells
import Derived.WalkLawsBesides
import Derived.BigQuiet
open Go.Proofs.Tryz
namespace Go.Proofs.YtalmoiogbdahcaaGreat
abbrev BA:=ByteArray
set_option maxRecDepth 100000
set_option maxHeartbeats 8000000
open Go.RowKit
abbrev Oo:=@Array.toArray_toList
abbrev Oq:=@Below.heap_alloc
abbrev Ot:=@Below.heap_setCell
abbrev Ou:=@Below.refl
abbrev Ov:=@List.append_assoc
abbrev Ow:=@List.drop_drop
abbrev Ox:=@List.drop_eq_nil_of_le
abbrev Oy:=@List.eq_nil_of_length_eq_zero
abbrev Oz:=@List.getElem?_append_left
abbrev OA:=@List.getElem?_append_right
abbrev OB:=@List.getElem?_drop
abbrev OC:=@List.getElem?_eq_getElem
abbrev OD:=@List.getElem?_eq_none
abbrev OE:=@List.getElem?_eq_some_iff
abbrev OF:=@List.getElem?_map
abbrev OG:=@List.getElem?_replicate
abbrev OH:=@List.getElem?_set_ne
abbrev OI:=@List.getElem?_set_self
abbrev OJ:=@List.getElem?_take_of_lt
abbrev OK:=@List.length_append
abbrev OL:=@List.length_cons
abbrev OM:=@List.length_map
abbrev ON:=@List.length_replicate
abbrev OO:=@List.length_set
abbrev OQ:=@List.length_take
abbrev OR:=@List.map_append
abbrev OS:=@List.mem_append
abbrev OT:=@List.mem_cons
abbrev OU:=@List.mem_cons_of_mem
abbrev OV:=@List.mem_cons_self
abbrev OW:=@List.mem_filter
abbrev OX:=@List.mem_iff_getElem?
abbrev OY:=@List.mem_map
abbrev OZ:=@List.mem_of_getElem?
abbrev O3:=@List.mem_singleton
abbrev O4:=@List.not_mem_nil
abbrev O5:=@List.pairwise_cons
abbrev O6:=@List.take_append_drop
abbrev O7:=@List.take_of_length_le
abbrev O8:=@List.take_succ_eq_append_getElem
abbrev O9:=@Nat.add_assoc
abbrev Ua:=@Nat.add_zero
abbrev Ub:=@Nat.le_of_lt
abbrev Uc:=@Nat.le_refl
abbrev Ud:=@Nat.le_succ
abbrev Ue:=@Nat.le_trans
abbrev Uf:=@Nat.lt_of_le_of_lt
abbrev Ug:=@Nat.lt_of_lt_of_le
abbrev Uh:=@Nat.lt_or_ge
abbrev Ui:=@Nat.lt_succ_self
abbrev Uj:=@Nat.not_lt_zero
abbrev Uk:=@Nat.sub_self
abbrev Ul:=@Nat.zero_add
abbrev Um:=@Nat.zero_le
abbrev Un:=@Option.map_eq_some_iff
abbrev Uo:=@decide_eq_false
abbrev Up:=@decide_eq_true
theorem zo{a b:Bool}(h:a=b):Ending.returned (.bool a)=.returned (.bool b):=by rw[h]
theorem zX{k:IntKind}{a b:Int}(h:a=b):Ending.returned (.int k a)=.returned (.int k b):=by rw[h]
theorem tt(s:BA)(k:Nat)(h:k<s.size):s.data.toList.take (k+1)=s.data.toList.take k++[s[k]]:=by
 rw[O8 (by simpa using h)];rfl
def jY(l:List UInt8)(c:Int):Bool:=l.any λx=>(x.toNat:Int)==c
theorem Ym(l:List UInt8)(x:UInt8)(c:Int):jY (l++[x]) c=(jY l c||((x.toNat:Int)==c)):=by
 simp[jY]
variable{l:List UInt8}
theorem Yn{k:Nat}{c:Int}(h:jY (l.take k) c=true):jY l c=true:=by
 unfold jY at h ⊢;rw[List.any_eq_true]at h ⊢;obtain⟨x,hx,h⟩:=h;exact⟨x,List.mem_of_mem_take hx,h⟩
theorem QD(s:BA)(c:Int)(w:World)(hs:s.size<=maxLen):
  Calls prog 167 #[.string s,.int .u8 c] w λe w'=>e=.returned (.bool (jY s.data.toList c))/\w'=w:=by
 unfold maxLen at hs;go_enter func167,ntmps167;go_wp2
 go_loop [5] (λi=> ∃k:Nat,k<=s.size/\i=.int .i64 k/\jY (s.data.toList.take k) c=false) (λi=>s.size-(intOf i).toNat)
 case atStart=>exact⟨0,Um _,rfl,rfl⟩
 case round=>
  obtain⟨k,hk,rfl,hh⟩:=hrel;have HH:Hid (jY (s.data.toList.take k) c=false):=hh;clear hh;by_cases hlt:k<s.size
  ·have HS:Hid (jY (s.data.toList.take (k+1)) c=(jY (s.data.toList.take k) c||((s[k].toNat:Int)==c))):=by
    show _=_
    rw[tt s k hlt,Ym]
   by_cases hc:(s[k].toNat:Int)=c
   ·go_wp2
    go_ret;refine⟨zo ?_,rfl⟩
    symm
    apply Yn (k:=k+1);rw[HS.out];simp[hc]
   ·go_wp2
    go_round
    case rel=>exact⟨k+1,by omega,by go_num,by rw[HS.out,HH.out];simp[hc]⟩
    case measure=>simp[intOf];omega
  ·go_wp2
   go_ret;refine⟨zo ?_,rfl⟩;have:=HH.out;rw[O7 (by simp;omega)]at this
   exact this.symm
def ve(l:List UInt8)(c:Int):Option Nat:=l.findIdx? λx=>(x.toNat:Int)==c
def qX(s:BA)(c:Int):BA:=match ve s.data.toList c with|some i=>s.extract 0 i|none=>s
def qS(s:BA)(c:Int):BA:=match ve s.data.toList c with|some i=>s.extract (i+1) s.size|none=>ByteArray.empty
def yu(s:BA)(c:Int):Bool:=(ve s.data.toList c).isSome
theorem oY(l:List UInt8)(x:UInt8)(r:List UInt8)(c:Int)(h:ve l c=none):ve (l++x::r) c=if(x.toNat:Int)==c then some l.length else(ve r c).map (· +(l.length+1)):=by
 unfold ve at h ⊢;rw[List.findIdx?_append,h];simp only[Option.none_or,List.findIdx?_cons];split<;>simp[Option.map_map,Function.comp_def]
 congr 1;funext y;omega
theorem rN(l:List UInt8)(x:UInt8)(c:Int)(h:ve l c=none)(hx: ¬(x.toNat:Int)=c):ve (l++[x]) c=none:=by
 rw[oY l x [] c h];simp[hx,ve]
theorem QE(s:BA)(k:Nat)(h:k<s.size):s.data.toList=s.data.toList.take k++s[k]::s.data.toList.drop (k+1):=by
 have h':k<s.data.toList.length:=by simpa using h
 have:=(O6 k s.data.toList).symm;rw[List.drop_eq_getElem_cons h']at this;exact this
theorem Yo(s:BA)(c:Int)(k:Nat)(h:k<s.size)(hn:ve (s.data.toList.take k) c=none)(hc:(s[k].toNat:Int)=c):ve s.data.toList c=some k:=by
 rw[QE s k h,oY _ _ _ _ hn];simp[hc];omega
theorem K8(s:BA)(c:Int)(w:World)(hs:s.size<=maxLen):
  Calls prog 117 #[.string s,.int .u8 c] w λe w'=>e=.returned (.tuple #[.string (qX s c),.string (qS s c),.bool (yu s c)])/\ ∃n,w'=w.drewN n:=by
 unfold maxLen at hs;go_enter func117,ntmps117;go_wp2
 go_loop [7] (λi=> ∃k:Nat,k<=s.size/\i=.int .i64 k/\ve (s.data.toList.take k) c=none) (λi=>s.size-(intOf i).toNat)
 case atStart=>exact⟨0,Um _,rfl,rfl⟩
 case round=>
  obtain⟨k,hk,rfl,hh⟩:=hrel;have HH:Hid (ve (s.data.toList.take k) c=none):=hh;clear hh;by_cases hlt:k<s.size
  ·by_cases hc:(s[k].toNat:Int)=c
   ·have HF:Hid (ve s.data.toList c=some k):=Yo s c k hlt HH.out hc
    go_wp2
    go_quiet (fail)
    go_wp2;go_ret3;refine⟨?_,⟨_,rfl⟩⟩;unfold qX qS yu;rw[HF.out]
    rfl
   ·go_wp2
    go_round
    case rel=>exact⟨k+1,by omega,by go_num,by rw[tt s k hlt];exact rN _ _ _ HH.out hc⟩
    case measure=>simp[intOf];omega
  ·go_wp2
   go_ret3;have h2:=HH.out;rw[O7 (by simp;omega)]at h2
   refine⟨?_,⟨0,rfl⟩⟩;unfold qX qS yu;rw[h2]
   rfl
def xR(start:Int)(l:List UInt8):Int:=l.foldl (λa x=>64 * a+(x.toNat:Int)-128) start
def zA(l:List UInt8):Bool:=l.all λx=>decide (128<=(x.toNat:Int)) && decide ((x.toNat:Int)<=191)
def zF(least code:Int):Bool:=decide (code<least)||decide (1114111<code)||(decide (55296<=code) && decide (code<57344))
def ze(n:Nat)(start least:Int)(l:List UInt8):Nat:=
 if l.length<n then 0 else if zA (l.take n)=false then 0 else if zF least (xR start (l.take n))=true then 0 else n+1
def zd:List UInt8->Nat
 | []=>0
 |c::r=>
  if(c.toNat:Int)<128 then 1
  else if 194<=(c.toNat:Int)/\(c.toNat:Int)<224 then ze 1 ((c.toNat:Int)-192) 0 r
  else if 224<=(c.toNat:Int)/\(c.toNat:Int)<240 then ze 2 ((c.toNat:Int)-224) 2048 r
  else if 240<=(c.toNat:Int)/\(c.toNat:Int)<245 then ze 3 ((c.toNat:Int)-240) 65536 r
  else 0
theorem dP(l:List UInt8)(x:UInt8):zA (l++[x])=(zA l && (decide (128<=(x.toNat:Int)) && decide ((x.toNat:Int)<=191))):=by simp[zA]
theorem gG(a:Int)(l:List UInt8)(x:UInt8):xR a (l++[x])=64 * xR a l+(x.toNat:Int)-128:=by simp[xR]
theorem mM(l:List UInt8): ∀(a:Int),0<=a->a<=31->l.length<=3->zA l=true->0<=xR a l/\xR a l<=8388607:=by
 intro a h0 h1 h3 hf
 match l,h3 with
 | [],_=>simp[xR];omega
 | [x],_=>simp[xR,zA]at hf ⊢;omega
 | [x,y],_=>simp[xR,zA]at hf ⊢;omega
 | [x,y,z],_=>simp[xR,zA]at hf ⊢;omega
variable{i:Nat}
theorem yC{n:Nat}(h:zA (l.take i)=false)(hi:i<=n):zA (l.take n)=false:=by
 unfold zA at h ⊢;rw[List.all_eq_false]at h ⊢;obtain⟨x,hx,h⟩:=h;refine⟨x,?_,h⟩;rw[show l.take i=(l.take n).take i by rw[List.take_take,Nat.min_eq_left hi]]at hx
 exact List.mem_of_mem_take hx
theorem oZ(s:BA)(k:Nat)(h:k+1<s.size):(s.data.toList.drop 1).take (k+1)=(s.data.toList.drop 1).take k++[s[k+1]]:=by
 rw[O8 (by simp;omega)];simp;rfl
theorem QG(s:BA)(h:0<s.size):s.data.toList=s[0]::s.data.toList.drop 1:=by
 have:=QE s 0 h;simpa using this
theorem ZU(s:BA)(w:World)(hs:s.size<=maxLen)(h0:0<s.size)(x:Int)(hx:(s[0].toNat:Int)=x)(ha:194<=x)(hb:x<224)(r:List UInt8)(hr:Hid (s.data.toList.drop 1=r))(h9:r.length+1=s.size):
  Calls prog 166 #[.string s] w λe w'=>e=.returned (.int .i64 (ze 1 (x-192) 0 r))/\w'=w:=by
 unfold maxLen at hs;by_cases hl:s.size<=1
 ·go_enter func166,ntmps166
  go_wp2;go_ret;refine⟨zX ?_,rfl⟩;unfold ze;rw[if_pos (by omega)];rfl
 ·go_enter func166,ntmps166
  go_wp2
  go_loop [7,6] (λi c=> ∃j:Nat,j<=1/\i=.int .i64 ((j:Int)+1)/\c=.int .i64 (xR (x-192) (r.take j))/\zA (r.take j)=true) (λi _=>1+1-(intOf i).toNat)
  case atStart=>exact⟨0,by omega,rfl,rfl,rfl⟩
  case round=>
   obtain⟨j,hj,rfl,rfl,h6⟩:=hrel;have HF:Hid (zA (r.take j)=true):=h6;clear h6;have h7:=mM (r.take j) (x-192) (by omega) (by omega) (by rw[OQ];omega) HF.out
   have h4: ¬r.length<1:=by omega
   have HL:Hid (¬r.length<1):=h4;clear h4;by_cases hlt:j<1
   ·have h8:j+1<s.size:=by omega
    have HS:r.take (j+1)=r.take j++[s[j+1]]:=by rw[←hr.out];exact oZ s j h8
    have HC:Hid (xR (x-192) (r.take (j+1))=64 * xR (x-192) (r.take j)+(s[j+1].toNat:Int)-128):=by show _=_;rw[HS,gG]
    have HG:Hid (zA (r.take (j+1))=(zA (r.take j) && (decide (128<=(s[j+1].toNat:Int)) && decide ((s[j+1].toNat:Int)<=191)))):=by show _=_;rw[HS,dP]
    clear HS;obtain⟨y,hy⟩: ∃y:Int,(s[j+1].toNat:Int)=y:=⟨_,rfl⟩;rw[hy]at HC HG;by_cases h1:y<128
    ·go_wp2
     go_ret;refine⟨zX ?_,rfl⟩;have hf:zA (r.take (j+1))=false:=by rw[HG.out];simp;omega
     unfold ze;rw[if_neg HL.out,if_pos (yC hf (by omega))];rfl
    ·by_cases h2:191<y
     ·go_wp2
      go_ret;refine⟨zX ?_,rfl⟩;have hf:zA (r.take (j+1))=false:=by rw[HG.out];simp;omega
      unfold ze;rw[if_neg HL.out,if_pos (yC hf (by omega))];rfl
     ·go_wp2
      go_round
      case rel=>exact⟨j+1,by omega,by go_num,by rw[HC.out],by rw[HG.out,HF.out];simp;omega⟩
      case measure=>simp[intOf];omega
   ·obtain rfl:j=1:=by omega
    obtain⟨z,hz⟩: ∃z:Int,xR (x-192) (r.take 1)=z:=⟨_,rfl⟩;have HZ:Hid (xR (x-192) (r.take 1)=z):=hz;rw[hz]at h7;rw[hz];clear hz;by_cases hbad:zF 0 z=true
    ·have h3:z<0\/1114111<z\/(55296<=z/\z<57344):=by simpa[zF,or_assoc]using hbad
     have HB:Hid (zF 0 z=true):=hbad;clear hbad;have h5:(0:Int)=(ze 1 (x-192) 0 r:Nat):=by
      unfold ze;rw[if_neg HL.out,if_neg (by rw[HF.out];simp),HZ.out,if_pos HB.out];rfl
     have FN:Hid ((0:Int)=(ze 1 (x-192) 0 r:Nat)):=h5;clear h5 HB;by_cases q1:z<0
     ·go_wp2
      go_ret;exact⟨zX FN.out,rfl⟩
     ·by_cases q2:1114111<z
      ·go_wp2
       go_ret;exact⟨zX FN.out,rfl⟩
      ·have q3:55296<=z/\z<57344:=by omega
       obtain⟨q4,q5⟩:=q3;clear h3;go_wp2;go_ret;exact⟨zX FN.out,rfl⟩
    ·have h3: ¬z<0/\ ¬1114111<z/\ ¬(55296<=z/\z<57344):=by simp[zF]at hbad;omega
     obtain⟨q1,q2,q3⟩:=h3;have FN:Hid ((1:Int)+1=(ze 1 (x-192) 0 r:Nat)):=by
      show _=_
      unfold ze;rw[if_neg HL.out,if_neg (by rw[HF.out];simp),HZ.out,if_neg hbad];rfl
     clear hbad;by_cases q4:55296<=z
     ·have q5: ¬z<57344:=by omega
      clear q3;go_wp2;go_ret;exact⟨zX FN.out,rfl⟩
     ·clear q3
      go_wp2;go_ret;exact⟨zX FN.out,rfl⟩
theorem ZV(s:BA)(w:World)(hs:s.size<=maxLen)(h0:0<s.size)(x:Int)(hx:(s[0].toNat:Int)=x)(ha:224<=x)(hb:x<240)(r:List UInt8)(hr:Hid (s.data.toList.drop 1=r))(h9:r.length+1=s.size):
  Calls prog 166 #[.string s] w λe w'=>e=.returned (.int .i64 (ze 2 (x-224) 2048 r))/\w'=w:=by
 unfold maxLen at hs;by_cases hl:s.size<=2
 ·go_enter func166,ntmps166
  go_wp2;go_ret;refine⟨zX ?_,rfl⟩;unfold ze;rw[if_pos (by omega)];rfl
 ·go_enter func166,ntmps166
  go_wp2
  go_loop [7,6] (λi c=> ∃j:Nat,j<=2/\i=.int .i64 ((j:Int)+1)/\c=.int .i64 (xR (x-224) (r.take j))/\zA (r.take j)=true) (λi _=>2+1-(intOf i).toNat)
  case atStart=>exact⟨0,by omega,rfl,rfl,rfl⟩
  case round=>
   obtain⟨j,hj,rfl,rfl,h6⟩:=hrel;have HF:Hid (zA (r.take j)=true):=h6;clear h6;have h7:=mM (r.take j) (x-224) (by omega) (by omega) (by rw[OQ];omega) HF.out
   have h4: ¬r.length<2:=by omega
   have HL:Hid (¬r.length<2):=h4;clear h4;by_cases hlt:j<2
   ·have h8:j+1<s.size:=by omega
    have HS:r.take (j+1)=r.take j++[s[j+1]]:=by rw[←hr.out];exact oZ s j h8
    have HC:Hid (xR (x-224) (r.take (j+1))=64 * xR (x-224) (r.take j)+(s[j+1].toNat:Int)-128):=by show _=_;rw[HS,gG]
    have HG:Hid (zA (r.take (j+1))=(zA (r.take j) && (decide (128<=(s[j+1].toNat:Int)) && decide ((s[j+1].toNat:Int)<=191)))):=by show _=_;rw[HS,dP]
    clear HS;obtain⟨y,hy⟩: ∃y:Int,(s[j+1].toNat:Int)=y:=⟨_,rfl⟩;rw[hy]at HC HG;by_cases h1:y<128
    ·go_wp2
     go_ret;refine⟨zX ?_,rfl⟩;have hf:zA (r.take (j+1))=false:=by rw[HG.out];simp;omega
     unfold ze;rw[if_neg HL.out,if_pos (yC hf (by omega))];rfl
    ·by_cases h2:191<y
     ·go_wp2
      go_ret;refine⟨zX ?_,rfl⟩;have hf:zA (r.take (j+1))=false:=by rw[HG.out];simp;omega
      unfold ze;rw[if_neg HL.out,if_pos (yC hf (by omega))];rfl
     ·go_wp2
      go_round
      case rel=>exact⟨j+1,by omega,by go_num,by rw[HC.out],by rw[HG.out,HF.out];simp;omega⟩
      case measure=>simp[intOf];omega
   ·obtain rfl:j=2:=by omega
    obtain⟨z,hz⟩: ∃z:Int,xR (x-224) (r.take 2)=z:=⟨_,rfl⟩;have HZ:Hid (xR (x-224) (r.take 2)=z):=hz;rw[hz]at h7;rw[hz];clear hz;by_cases hbad:zF 2048 z=true
    ·have h3:z<2048\/1114111<z\/(55296<=z/\z<57344):=by simpa[zF,or_assoc]using hbad
     have HB:Hid (zF 2048 z=true):=hbad;clear hbad;have h5:(0:Int)=(ze 2 (x-224) 2048 r:Nat):=by
      unfold ze;rw[if_neg HL.out,if_neg (by rw[HF.out];simp),HZ.out,if_pos HB.out];rfl
     have FN:Hid ((0:Int)=(ze 2 (x-224) 2048 r:Nat)):=h5;clear h5 HB;by_cases q1:z<2048
     ·go_wp2
      go_ret;exact⟨zX FN.out,rfl⟩
     ·by_cases q2:1114111<z
      ·go_wp2
       go_ret;exact⟨zX FN.out,rfl⟩
      ·have q3:55296<=z/\z<57344:=by omega
       obtain⟨q4,q5⟩:=q3;clear h3;go_wp2;go_ret;exact⟨zX FN.out,rfl⟩
    ·have h3: ¬z<2048/\ ¬1114111<z/\ ¬(55296<=z/\z<57344):=by simp[zF]at hbad;omega
     obtain⟨q1,q2,q3⟩:=h3;have FN:Hid ((2:Int)+1=(ze 2 (x-224) 2048 r:Nat)):=by
      show _=_
      unfold ze;rw[if_neg HL.out,if_neg (by rw[HF.out];simp),HZ.out,if_neg hbad];rfl
     clear hbad;by_cases q4:55296<=z
     ·have q5: ¬z<57344:=by omega
      clear q3;go_wp2;go_ret;exact⟨zX FN.out,rfl⟩
     ·clear q3
      go_wp2;go_ret;exact⟨zX FN.out,rfl⟩
theorem ZW(s:BA)(w:World)(hs:s.size<=maxLen)(h0:0<s.size)(x:Int)(hx:(s[0].toNat:Int)=x)(ha:240<=x)(hb:x<245)(r:List UInt8)(hr:Hid (s.data.toList.drop 1=r))(h9:r.length+1=s.size):
  Calls prog 166 #[.string s] w λe w'=>e=.returned (.int .i64 (ze 3 (x-240) 65536 r))/\w'=w:=by
 unfold maxLen at hs;by_cases hl:s.size<=3
 ·go_enter func166,ntmps166
  go_wp2;go_ret;refine⟨zX ?_,rfl⟩;unfold ze;rw[if_pos (by omega)];rfl
 ·go_enter func166,ntmps166
  go_wp2
  go_loop [7,6] (λi c=> ∃j:Nat,j<=3/\i=.int .i64 ((j:Int)+1)/\c=.int .i64 (xR (x-240) (r.take j))/\zA (r.take j)=true) (λi _=>3+1-(intOf i).toNat)
  case atStart=>exact⟨0,by omega,rfl,rfl,rfl⟩
  case round=>
   obtain⟨j,hj,rfl,rfl,h6⟩:=hrel;have HF:Hid (zA (r.take j)=true):=h6;clear h6;have h7:=mM (r.take j) (x-240) (by omega) (by omega) (by rw[OQ];omega) HF.out
   have h4: ¬r.length<3:=by omega
   have HL:Hid (¬r.length<3):=h4;clear h4;by_cases hlt:j<3
   ·have h8:j+1<s.size:=by omega
    have HS:r.take (j+1)=r.take j++[s[j+1]]:=by rw[←hr.out];exact oZ s j h8
    have HC:Hid (xR (x-240) (r.take (j+1))=64 * xR (x-240) (r.take j)+(s[j+1].toNat:Int)-128):=by show _=_;rw[HS,gG]
    have HG:Hid (zA (r.take (j+1))=(zA (r.take j) && (decide (128<=(s[j+1].toNat:Int)) && decide ((s[j+1].toNat:Int)<=191)))):=by show _=_;rw[HS,dP]
    clear HS;obtain⟨y,hy⟩: ∃y:Int,(s[j+1].toNat:Int)=y:=⟨_,rfl⟩;rw[hy]at HC HG;by_cases h1:y<128
    ·go_wp2
     go_ret;refine⟨zX ?_,rfl⟩;have hf:zA (r.take (j+1))=false:=by rw[HG.out];simp;omega
     unfold ze;rw[if_neg HL.out,if_pos (yC hf (by omega))];rfl
    ·by_cases h2:191<y
     ·go_wp2
      go_ret;refine⟨zX ?_,rfl⟩;have hf:zA (r.take (j+1))=false:=by rw[HG.out];simp;omega
      unfold ze;rw[if_neg HL.out,if_pos (yC hf (by omega))];rfl
     ·go_wp2
      go_round
      case rel=>exact⟨j+1,by omega,by go_num,by rw[HC.out],by rw[HG.out,HF.out];simp;omega⟩
      case measure=>simp[intOf];omega
   ·obtain rfl:j=3:=by omega
    obtain⟨z,hz⟩: ∃z:Int,xR (x-240) (r.take 3)=z:=⟨_,rfl⟩;have HZ:Hid (xR (x-240) (r.take 3)=z):=hz;rw[hz]at h7;rw[hz];clear hz;by_cases hbad:zF 65536 z=true
    ·have h3:z<65536\/1114111<z\/(55296<=z/\z<57344):=by simpa[zF,or_assoc]using hbad
     have HB:Hid (zF 65536 z=true):=hbad;clear hbad;have h5:(0:Int)=(ze 3 (x-240) 65536 r:Nat):=by
      unfold ze;rw[if_neg HL.out,if_neg (by rw[HF.out];simp),HZ.out,if_pos HB.out];rfl
     have FN:Hid ((0:Int)=(ze 3 (x-240) 65536 r:Nat)):=h5;clear h5 HB;by_cases q1:z<65536
     ·go_wp2
      go_ret;exact⟨zX FN.out,rfl⟩
     ·by_cases q2:1114111<z
      ·go_wp2
       go_ret;exact⟨zX FN.out,rfl⟩
      ·have q3:55296<=z/\z<57344:=by omega
       obtain⟨q4,q5⟩:=q3;clear h3;go_wp2;go_ret;exact⟨zX FN.out,rfl⟩
    ·have h3: ¬z<65536/\ ¬1114111<z/\ ¬(55296<=z/\z<57344):=by simp[zF]at hbad;omega
     obtain⟨q1,q2,q3⟩:=h3;have FN:Hid ((3:Int)+1=(ze 3 (x-240) 65536 r:Nat)):=by
      show _=_
      unfold ze;rw[if_neg HL.out,if_neg (by rw[HF.out];simp),HZ.out,if_neg hbad];rfl
     clear hbad;by_cases q4:55296<=z
     ·have q5: ¬z<57344:=by omega
      clear q3;go_wp2;go_ret;exact⟨zX FN.out,rfl⟩
     ·clear q3
      go_wp2;go_ret;exact⟨zX FN.out,rfl⟩
theorem yv(c:UInt8)(r:List UInt8):zd (c::r)=if(c.toNat:Int)<128 then 1 else if 194<=(c.toNat:Int)/\(c.toNat:Int)<224 then ze 1 ((c.toNat:Int)-192) 0 r else if 224<=(c.toNat:Int)/\(c.toNat:Int)<240 then ze 2 ((c.toNat:Int)-224) 2048 r else if 240<=(c.toNat:Int)/\(c.toNat:Int)<245 then ze 3 ((c.toNat:Int)-240) 65536 r else 0:=rfl
theorem JV(s:BA)(w:World)(hs:s.size<=maxLen)(h0:0<s.size):
  Calls prog 166 #[.string s] w λe w'=>e=.returned (.int .i64 (zd s.data.toList))/\w'=w:=by
 obtain⟨x,hx⟩: ∃x:Int,(s[0].toNat:Int)=x:=⟨_,rfl⟩;have h8:0<=x:=by omega
 have h7:zd s.data.toList=if x<128 then 1 else if 194<=x/\x<224 then ze 1 (x-192) 0 (s.data.toList.drop 1)else if 224<=x/\x<240 then ze 2 (x-224) 2048 (s.data.toList.drop 1)else if 240<=x/\x<245 then ze 3 (x-240) 65536 (s.data.toList.drop 1)else 0:=by
  have h:=yv s[0] (s.data.toList.drop 1);rw[←QG s h0,hx]at h;exact h
 by_cases h1:194<=x/\x<224
 ·rw[h7,if_neg (by omega),if_pos h1];exact ZU s w hs h0 x hx h1.1 h1.2 _ rfl (by simp;omega)
 by_cases h2:224<=x/\x<240
 ·rw[h7,if_neg (by omega),if_neg h1,if_pos h2];exact ZV s w hs h0 x hx h2.1 h2.2 _ rfl (by simp;omega)
 by_cases h3:240<=x/\x<245
 ·rw[h7,if_neg (by omega),if_neg h1,if_neg h2,if_pos h3];exact ZW s w hs h0 x hx h3.1 h3.2 _ rfl (by simp;omega)
 rw[h7];unfold maxLen at hs;clear h7;by_cases h4:x<128
 ·rw[if_pos h4]
  go_enter func166,ntmps166;go_wp2;go_ret;exact⟨rfl,rfl⟩
 ·rw[if_neg h4,if_neg h1,if_neg h2,if_neg h3]
  by_cases h5:x<194
  ·clear h1 h2 h3
   go_enter func166,ntmps166;go_wp2;go_ret;exact⟨rfl,rfl⟩
  ·have h6:245<=x:=by omega
   clear h1 h2 h3;go_enter func166,ntmps166;go_wp2;go_ret;exact⟨rfl,rfl⟩
def aJ:List UInt8:=[58,35,64,61,124,38,40,41,62,43,45]
def yf(x:Int):Bool:=jY aJ x
def zv(x:Int):Bool:=yf x||decide (x<33)||x==127
def yw:Nat->List UInt8->Bool
 |0,_=>false
 |r+1,[]=>decide (r<8)
 |r+1,c::l=>if zd (c::l)=0 then false else if zv c.toNat=true then false else yw r ((c::l).drop (zd (c::l)))
def qx(l:List UInt8):Bool:=yw 9 l
def zZ(s:BA):Bool:=qx s.data.toList
theorem mN(n:Nat)(a b:Int)(l:List UInt8):ze n a b l<=l.length+1:=by
 unfold ze;split
 ·omega
 ·split
  ·omega
  ·split<;>omega
theorem gH(l:List UInt8):zd l<=l.length:=by
 match l with
 | []=>exact Um _
 |c::r=>
  rw[yv];have h1:=mN 1 ((c.toNat:Int)-192) 0 r;have h2:=mN 2 ((c.toNat:Int)-224) 2048 r;have h3:=mN 3 ((c.toNat:Int)-240) 65536 r;simp only[OL];split
  ·omega
  ·split
   ·omega
   ·split
    ·omega
    ·split<;>omega
theorem xO(s:BA)(k:Nat):(s.extract k s.size).data.toList=s.data.toList.drop k:=by
 simp only[ByteArray.data_extract,Array.toList_extract,List.extract_eq_take_drop];rw[O7 (by simp)]
theorem yD(s:BA)(k:Nat):(s.extract 0 k).data.toList=s.data.toList.take k:=by
 simp[ByteArray.data_extract]
theorem gJ(x:Int)(w:World)(h:yf x=false):Calls prog 167 #[.string {data:= #[58,35,64,61,124,38,40,41,62,43,45]},.int .u8 x] w λe w'=>e=.returned (.bool false)/\w'=w:=by
 have:=QD {data:= #[58,35,64,61,124,38,40,41,62,43,45]} x w (by decide)
 rw[show jY ({data:= #[58,35,64,61,124,38,40,41,62,43,45]}:BA).data.toList x=false from h]at this;exact this
theorem tu(x:Int)(w:World)(h:yf x=true):Calls prog 167 #[.string {data:= #[58,35,64,61,124,38,40,41,62,43,45]},.int .u8 x] w λe w'=>e=.returned (.bool true)/\w'=w:=by
 have:=QD {data:= #[58,35,64,61,124,38,40,41,62,43,45]} x w (by decide)
 rw[show jY ({data:= #[58,35,64,61,124,38,40,41,62,43,45]}:BA).data.toList x=true from h]at this;exact this
theorem dh(r:Nat)(c:UInt8)(l:List UInt8)(h:zd (c::l)=0\/zv c.toNat=true):yw (r+1) (c::l)=false:=by
 rw[yw];rcases h with h|h
 ·rw[if_pos h]
 ·by_cases q:zd (c::l)=0
  ·rw[if_pos q]
  ·rw[if_neg q,if_pos h]
theorem iw(r:Nat)(c:UInt8)(l:List UInt8)(h:zd (c::l)≠0)(g:zv c.toNat=false):yw (r+1) (c::l)=yw r ((c::l).drop (zd (c::l))):=by
 rw[yw,if_neg h,if_neg (by simp[g])]
theorem ja(s:BA)(w:World)(hs:s.size<=maxLen):
  Calls prog 119 #[.string s] w λe w'=>e=.returned (.bool (zZ s))/\w'=w:=by
 unfold zZ;go_enter func119,ntmps119;go_wp2
 go_loop [0,3] (λa b=> ∃(t:BA) (n:Nat),a=.string t/\b=.int .i64 n/\n<=9/\t.size<=maxLen/\yw (9-n) t.data.toList=qx s.data.toList) (λ_ b=>9-(intOf b).toNat)
 case atStart=>exact⟨s,0,rfl,rfl,by omega,hs,rfl⟩
 case round=>
  obtain⟨t,n,rfl,rfl,hn,ht,h5⟩:=hrel;have HR:Hid (yw (9-n) t.data.toList=qx s.data.toList):=h5;clear h5;have HT:Hid (t.size<=maxLen):=ht;unfold maxLen at ht;by_cases hn9:n=9
  ·subst hn9
   by_cases h0:0<t.size
   ·go_wp2
    go_ret;exact⟨zo HR.out,rfl⟩
   ·go_wp2
    go_ret;exact⟨zo HR.out,rfl⟩
  ·have hb:n<9:=by omega
   by_cases h0:0<t.size
   ·obtain⟨x,hx⟩: ∃x:Int,(t[0].toNat:Int)=x:=⟨_,rfl⟩
    obtain⟨k,hk⟩: ∃k:Nat,zd t.data.toList=k:=⟨_,rfl⟩;have h3:=λw=>JV t w HT.out h0;rw[hk]at h3;have h8:k<=t.size:=by have:=gH t.data.toList;rw[hk]at this;simpa using this
    have HC:Hid (t.data.toList=t[0]::t.data.toList.drop 1):=QG t h0;have HK:Hid (zd t.data.toList=k):=hk;have HX:Hid ((t[0].toNat:Int)=x):=hx;clear hk;have h2:k=0\/zv x=true->qx s.data.toList=false:=by
     intro h;rw[←HR.out,show 9-n=(8-n)+1 by omega,HC.out]
     refine dh _ _ _ ?_;rw[←HC.out,HK.out,HX.out];exact h
    have h4:k≠0->zv x=false->yw (9-(n+1)) (t.extract k t.size).data.toList=qx s.data.toList:=by
     intro h g;rw[xO,←HR.out,show 9-n=(8-n)+1 by omega,show 9-(n+1)=8-n by omega]
     have:=iw (8-n) t[0] (t.data.toList.drop 1) (by rw[←HC.out,HK.out];exact h) (by rw[HX.out];exact g)
     rw[←HC.out,HK.out]at this;exact this.symm
    by_cases hk0:k=0
    ·subst hk0
     have HN:Hid (false=qx s.data.toList):=(h2 (Or.inl rfl)).symm;clear h2 h4;cases hm:yf x
     ·go_wp2_with(first|(go_at_call 166;refine(h3 _).mono ?_;rintro e w' ⟨rfl,rfl⟩)|(go_at_call 167;refine(gJ _ _ hm).mono ?_;rintro e w' ⟨rfl,rfl⟩))
      go_ret;exact⟨zo HN.out,rfl⟩
     ·go_wp2_with(first|(go_at_call 166;refine(h3 _).mono ?_;rintro e w' ⟨rfl,rfl⟩)|(go_at_call 167;refine(tu _ _ hm).mono ?_;rintro e w' ⟨rfl,rfl⟩))
      go_ret;exact⟨zo HN.out,rfl⟩
    ·have ha:0<k:=by omega
     have h9:((k:Int)==0)=false:=by simp;omega
     cases hm:yf x
     ·by_cases h33:x<33
      ·have HN:Hid (false=qx s.data.toList):=(h2 (Or.inr (by simp[zv,h33]))).symm
       clear h2 h4
       go_wp2_with(first|(go_at_call 166;refine(h3 _).mono ?_;rintro e w' ⟨rfl,rfl⟩)|(go_at_call 167;refine(gJ _ _ hm).mono ?_;rintro e w' ⟨rfl,rfl⟩))
       go_ret;exact⟨zo HN.out,rfl⟩
      ·by_cases h127:x=127
       ·have HN:Hid (false=qx s.data.toList):=(h2 (Or.inr (by simp[zv,h127]))).symm
        clear h2 h4;subst h127
        go_wp2_with(first|(go_at_call 166;refine(h3 _).mono ?_;rintro e w' ⟨rfl,rfl⟩)|(go_at_call 167;refine(gJ _ _ hm).mono ?_;rintro e w' ⟨rfl,rfl⟩))
        go_ret;exact⟨zo HN.out,rfl⟩
       ·have HN:Hid (yw (9-(n+1)) (t.extract k t.size).data.toList=qx s.data.toList):=h4 hk0 (by simp[zv,hm,h127];omega)
        clear h2 h4;have h7:(x==127)=false:=by simpa using h127
        go_wp2_with(first|(go_at_call 166;refine(h3 _).mono ?_;rintro e w' ⟨rfl,rfl⟩)|(go_at_call 167;refine(gJ _ _ hm).mono ?_;rintro e w' ⟨rfl,rfl⟩))
        go_round
        case rel=>exact⟨t.extract k t.size,n+1,rfl,by go_num,by omega,by have:=HT.out;simp;omega,HN.out⟩
        case measure=>simp[intOf];omega
     ·have HN:Hid (false=qx s.data.toList):=(h2 (Or.inr (by simp[zv,hm]))).symm
      clear h2 h4
      go_wp2_with(first|(go_at_call 166;refine(h3 _).mono ?_;rintro e w' ⟨rfl,rfl⟩)|(go_at_call 167;refine(tu _ _ hm).mono ?_;rintro e w' ⟨rfl,rfl⟩))
      go_ret;exact⟨zo HN.out,rfl⟩
   ·have h6:t.data.toList=[]:=by
     have:t.data.toList.length=0:=by simpa using(by omega:t.size=0)
     exact Oy this
    have HN:Hid (decide (1<=n/\n<=8)=qx s.data.toList):=by
     show _=_
     rw[←HR.out,h6,show 9-n=(8-n)+1 by omega,yw]
     rw[decide_eq_decide];omega
    clear h6;by_cases h1:1<=n
    ·go_wp2
     go_ret;refine⟨zo ?_,rfl⟩;rw[←HN.out,decide_eq_decide];omega
    ·go_wp2
     go_ret;refine⟨zo ?_,rfl⟩;rw[←HN.out];symm;rw[decide_eq_false_iff_not];omega
theorem Yp(s:BA)(c:Int)(h:s.size<=maxLen):(qX s c).size<=maxLen:=by
 unfold qX;split
 ·simp;omega
 ·exact h
theorem di(s:BA)(c:Int)(h:s.size<=maxLen):(qS s c).size<=maxLen:=by
 unfold qS;split
 ·simp;omega
 ·simp
def zj(s:BA):Bool:=yu s 58 && zZ (qX s 58) && zZ (qS s 58)
def xt(s:BA):Bool:=yu s 35 && zj (qX s 35) && zZ (qS s 35)
def y8(s:BA):Bool:=yu s 64 && xt (qX s 64) && (zj (qS s 64)||xt (qS s 64))
theorem yZ(s:BA)(c:Int)(hs:s.size<=maxLen): ∃A Z O,qX s c=A/\qS s c=Z/\yu s c=O/\A.size<=maxLen/\Z.size<=maxLen/\ ∀w,Calls prog 117 #[.string s,.int .u8 c] w λe w'=>e=.returned (.tuple #[.string A,.string Z,.bool O])/\ ∃n,w'=w.drewN n:=
 ⟨_,_,_,rfl,rfl,rfl,Yp s c hs,di s c hs,λw=>K8 s c w hs⟩
theorem ko(s:BA)(w:World)(hs:s.size<=maxLen):
  Calls prog 118 #[.string s] w λe w'=>e=.returned (.bool (zj s))/\ ∃n,w'=w.drewN n:=by
 unfold zj;obtain⟨A,Z,O,hA,hZ,hO,ha,hz,hc⟩:=yZ s 58 hs;rw[hA,hZ,hO];clear hA hZ hO;have h0:=λw=>ja A w ha;have h1:=λw=>ja Z w hz;generalize zZ A=x at *;generalize zZ Z=y at *;go_enter func118,ntmps118
 go_wp2_with(first|(go_at_call 117;refine(hc _).mono ?_;rintro e w' ⟨rfl,⟨n,rfl⟩⟩)|(go_at_call 119;refine(h0 _).mono ?_;clear h0;rintro e w' ⟨rfl,rfl⟩)|(go_at_call 119;have _t:True:=trivial;refine(h1 _).mono ?_;rintro e w' ⟨rfl,rfl⟩))
 all_goals (go_ret;exact⟨zo (by simp[*]),⟨_,rfl⟩⟩)
theorem cH(s:BA)(w:World)(hs:s.size<=maxLen):
  Calls prog 73 #[.string s] w λe w'=>e=.returned (.bool (xt s))/\ ∃n,w'=w.drewN n:=by
 unfold xt;obtain⟨A,Z,O,hA,hZ,hO,ha,hz,hc⟩:=yZ s 35 hs;rw[hA,hZ,hO];clear hA hZ hO;have h0:=λw=>ko A w ha;have h1:=λw=>ja Z w hz;generalize zj A=x at *;generalize zZ Z=y at *;go_enter func73,ntmps73
 go_wp2_with(first|(go_at_call 117;refine(hc _).mono ?_;rintro e w' ⟨rfl,⟨n,rfl⟩⟩)|(go_at_call 118;refine(h0 _).mono ?_;rintro e w' ⟨rfl,⟨n,rfl⟩⟩)|(go_at_call 119;refine(h1 _).mono ?_;rintro e w' ⟨rfl,rfl⟩))
 all_goals (go_ret;exact⟨zo (by simp[*]),⟨_,rfl⟩⟩)
theorem tC(s:BA)(w:World)(hs:s.size<=maxLen):
  Calls prog 71 #[.string s] w λe w'=>e=.returned (.tuple #[.string (qX s 64),.string (qS s 64),.bool (y8 s)])/\ ∃n,w'=w.drewN n:=by
 unfold y8;obtain⟨A,Z,O,hA,hZ,hO,ha,hz,hc⟩:=yZ s 64 hs;rw[hA,hZ,hO];clear hA hZ hO;have h0:=λw=>cH A w ha;have h2:=λw=>ko Z w hz;have h1:=λw=>cH Z w hz;generalize xt A=x at *;generalize zj Z=y at *;generalize xt Z=z at *;cases O<;>cases x<;>cases y
 all_goals
  go_enter func71,ntmps71
  go_wp2_with(first|(go_at_call 117;refine(hc _).mono ?_;rintro e w' ⟨rfl,⟨n,rfl⟩⟩)|(go_at_call 118;refine(h2 _).mono ?_;rintro e w' ⟨rfl,⟨n,rfl⟩⟩)|(go_at_call 73;refine(h0 _).mono ?_;clear h0;rintro e w' ⟨rfl,⟨n,rfl⟩⟩)|(go_at_call 73;refine(h1 _).mono ?_;rintro e w' ⟨rfl,⟨n,rfl⟩⟩))
  all_goals (go_ret3;exact⟨rfl,⟨_,rfl⟩⟩)
inductive WayT where
 |mk (is:Int) (over rel:BA) (parts:List WayT)
def qk:BA:={data:= #[]}
def yn:List UInt8:=[116,104,105,115]
structure Nod where
 k:BA
 n:BA
 r:BA
 deriving DecidableEq
def Nod.isTh(x:Nod):Bool:=decide (x.r=qk)
def Nod.th(x:Nod):Nod:=⟨x.k,x.n,qk⟩
def Nod.to(x:Nod)(r:BA):Nod:=⟨x.k,x.n,r⟩
def qy(ts:List (Nod×Nod))(x:Nod):List Nod:=(ts.filter λt=>decide (t.1=x)).map (·.2)
def vr(ts:List (Nod×Nod))(x:Nod)(is:Int)(over rel:BA):List Nod:=
 if is=0 then qy ts x else if is=1 then[x.to rel]else((qy ts (x.to over)).filter (·.isTh)).map (·.to rel)
def zV(is:Int):Bool:=is==0||is==1||is==2
mutual
def qY(ts:List (Nod×Nod))(x:Nod):WayT->List Nod
 | .mk is over rel parts=>if zV is then vr ts x is over rel else qO ts x parts
def qO(ts:List (Nod×Nod))(x:Nod):List WayT->List Nod
 | []=>[]
 |t::l=>qY ts x t++qO ts x l
end
mutual
def yg(ts:List (Nod×Nod))(P:Nod->Prop)(x:Nod):WayT->Prop
 | .mk is over rel parts=>if is=3 then u4 ts P x parts else if is=4 then vt ts P x parts else∃y∈qY ts x (.mk is over rel parts),P y
def u4(ts:List (Nod×Nod))(P:Nod->Prop)(x:Nod):List WayT->Prop
 | []=>False
 |t::l=>yg ts P x t\/u4 ts P x l
def vt(ts:List (Nod×Nod))(P:Nod->Prop)(x:Nod):List WayT->Prop
 | []=>True
 |t::l=>yg ts P x t/\vt ts P x l
end
mutual
theorem uM{ts:List (Nod×Nod)}{P Q:Nod->Prop}{x:Nod}:(t:WayT)->(∀y∈qY ts x t,P y->Q y)->yg ts P x t->yg ts Q x t
 | .mk is over rel parts,h,hp=>by
  rw[yg]at hp ⊢;by_cases h3:is=3
  ·rw[if_pos h3]at hp ⊢
   refine lK parts (λy hy=>h y ?_) hp;rw[qY,h3];exact hy
  ·rw[if_neg h3]at hp ⊢
   by_cases h4:is=4
   ·rw[if_pos h4]at hp ⊢
    refine lL parts (λy hy=>h y ?_) hp;rw[qY,h4];exact hy
   ·rw[if_neg h4]at hp ⊢
    obtain⟨y,hy,hp⟩:=hp;exact⟨y,hy,h y hy hp⟩
theorem lK{ts:List (Nod×Nod)}{P Q:Nod->Prop}{x:Nod}:(l:List WayT)->(∀y∈qO ts x l,P y->Q y)->u4 ts P x l->u4 ts Q x l
 | [],_,hp=>by rw[u4]at hp;exact hp.elim
 |t::l,h,hp=>by
  rw[u4]at hp ⊢;rw[qO]at h;rcases hp with hp|hp
  ·exact Or.inl (uM t (λy hy=>h y (List.mem_append_left _ hy)) hp)
  ·exact Or.inr (lK l (λy hy=>h y (List.mem_append_right _ hy)) hp)
theorem lL{ts:List (Nod×Nod)}{P Q:Nod->Prop}{x:Nod}:(l:List WayT)->(∀y∈qO ts x l,P y->Q y)->vt ts P x l->vt ts Q x l
 | [],_,_=>by rw[vt];trivial
 |t::l,h,hp=>by
  rw[vt]at hp ⊢;rw[qO]at h;exact⟨uM t (λy hy=>h y (List.mem_append_left _ hy)) hp.1,lL l (λy hy=>h y (List.mem_append_right _ hy)) hp.2⟩
end
def inU(u:Nod)(P:Nod->Prop)(y:Nod):Prop:=if y.isTh then y=u else P y
def Std(ts:List (Nod×Nod))(rule:Nod->WayT)(u x:Nod):Prop:= ∀P:Nod->Prop,(∀y,yg ts (inU u P) y (rule y)->P y)->P x
def qI(ts:List (Nod×Nod))(rule:Nod->WayT)(x:Nod):List Nod:=(qY ts x (rule x)).filter λy=> !y.isTh
variable{P Q:Nod->Prop}{u y:Nod}
theorem JW(h:y.isTh=false->P y->Q y)(hp:inU u P y):inU u Q y:=by
 unfold inU at hp ⊢;split
 ·rename_i e;rw[if_pos e]at hp;exact hp
 ·rename_i e;rw[if_neg e]at hp;exact h (by simpa using e) hp
variable{rule:Nod->WayT}{ts:List (Nod×Nod)}{x:Nod}
theorem kP(h: ∀y∈qI ts rule x,P y->Q y)(hp:yg ts (inU u P) x (rule x)):yg ts (inU u Q) x (rule x):=
 uM (rule x) (λy hy hi=>JW (λht=>h y (OW.2 ⟨hy,by rw[ht];rfl⟩)) hi) hp
theorem Std.step(h:yg ts (inU u (Std ts rule u)) x (rule x)):Std ts rule u x:=
 λP hP=>hP x (kP (λ_ _ hy=>hy P hP) h)
variable{S:Nod->Prop}
theorem Std.in{W:Nod->Prop}(hS: ∀x,S x-> ∀y∈qI ts rule x,S y)(hW: ∀x,S x->yg ts (inU u W) x (rule x)->W x)(hx:S x)(h:Std ts rule u x):W x:=
 h (λy=>S y->W y) (λy hy hs=>hW y hs (kP (λz hz hw=>hw (hS y hs z hz)) hy)) hx
inductive Rch (ts:List (Nod×Nod)) (rule:Nod->WayT) (x:Nod):Nod->Prop
 |here:Rch ts rule x x
 |on {y z:Nod}:Rch ts rule x y->z∈qI ts rule y->Rch ts rule x z
theorem Rch.in(hS: ∀x,S x-> ∀y∈qI ts rule x,S y)(hx:S x)(h:Rch ts rule x y):S y:=by
 induction h with
 |here=>exact hx
 |on _ hz ih=>exact hS _ ih _ hz
theorem vu:y∈qy ts x↔(x,y)∈ts:=by
 unfold qy;rw[OY]
 constructor
 ·rintro⟨t,ht,rfl⟩
  have:=OW.1 ht;have e:t.1=x:=by simpa using this.2
  rw[←e];exact this.1
 ·intro h
  exact⟨_,OW.2 ⟨h,by simp⟩,rfl⟩
def orW(who:Nod->Nat)(l:List Nod):Nat:=l.foldl (λa y=>a|||who y) 0
def ZX:Nat:=18446744073709551615
mutual
def crW(ts:List (Nod×Nod))(who:Nod->Nat)(x:Nod):WayT->Nat
 | .mk is over rel parts=>if is=3 then crO ts who x parts else if is=4 then crA ts who x parts else orW who (qY ts x (.mk is over rel parts))
def crO(ts:List (Nod×Nod))(who:Nod->Nat)(x:Nod):List WayT->Nat
 | []=>0
 |t::l=>crW ts who x t|||crO ts who x l
def crA(ts:List (Nod×Nod))(who:Nod->Nat)(x:Nod):List WayT->Nat
 | []=>ZX
 |t::l=>crW ts who x t &&& crA ts who x l
end
theorem JX(h:i<64):ZX.testBit i=true:=by
 have:ZX=2 ^ 64-1:=by decide
 rw[this,Nat.testBit_two_pow_sub_one];simpa using h
theorem K9(who:Nod->Nat): ∀(l:List Nod) (a i:Nat),(l.foldl (λa y=>a|||who y) a).testBit i=true↔a.testBit i=true\/ ∃y∈l,(who y).testBit i=true:=by
 intro l
 induction l with
 |nil=>intro a i;simp
 |cons y l ih=>
  intro a i;rw[List.foldl_cons,ih,Nat.testBit_or,Bool.or_eq_true]
  constructor
  ·rintro((h|h)|⟨z,hz,h⟩)
   ·exact Or.inl h
   ·exact Or.inr ⟨y,by simp,h⟩
   ·exact Or.inr ⟨z,by simp[hz],h⟩
  ·rintro(h|⟨z,hz,h⟩)
   ·exact Or.inl (Or.inl h)
   ·rcases OT.1 hz with rfl|hz
    ·exact Or.inl (Or.inr h)
    ·exact Or.inr ⟨z,hz,h⟩
theorem Gc(who:Nod->Nat)(l:List Nod)(i:Nat):(orW who l).testBit i=true↔ ∃y∈l,(who y).testBit i=true:=by
 unfold orW;rw[K9];simp
mutual
theorem ie{ts:List (Nod×Nod)}{who:Nod->Nat}{x:Nod}{i:Nat}(hi:i<64):(t:WayT)->((crW ts who x t).testBit i=true↔yg ts (λy=>(who y).testBit i=true) x t)
 | .mk is over rel parts=>by
  rw[crW,yg];by_cases h3:is=3
  ·rw[if_pos h3,if_pos h3];exact QH hi parts
  ·rw[if_neg h3,if_neg h3]
   by_cases h4:is=4
   ·rw[if_pos h4,if_pos h4];exact QI hi parts
   ·rw[if_neg h4,if_neg h4];exact Gc who _ i
theorem QH{ts:List (Nod×Nod)}{who:Nod->Nat}{x:Nod}{i:Nat}(hi:i<64):(l:List WayT)->((crO ts who x l).testBit i=true↔u4 ts (λy=>(who y).testBit i=true) x l)
 | []=>by rw[crO,u4];simp
 |t::l=>by
  rw[crO,u4,Nat.testBit_or,Bool.or_eq_true,ie hi t,QH hi l]
theorem QI{ts:List (Nod×Nod)}{who:Nod->Nat}{x:Nod}{i:Nat}(hi:i<64):(l:List WayT)->((crA ts who x l).testBit i=true↔vt ts (λy=>(who y).testBit i=true) x l)
 | []=>by rw[crA,vt,JX hi];simp
 |t::l=>by
  rw[crA,vt,Nat.testBit_and,Bool.and_eq_true,ie hi t,QI hi l]
end
variable{a b:Nat}
theorem fw(ha:a<2 ^ 64)(hb:b<2 ^ 64):a|||b<2 ^ 64:=Nat.or_lt_two_pow ha hb
variable{who:Nod->Nat}
theorem Yq(h: ∀y,who y<2 ^ 64): ∀(l:List Nod) (a:Nat),a<2 ^ 64->l.foldl (λa y=>a|||who y) a<2 ^ 64:=by
 intro l
 induction l with
 |nil=>intro a ha;exact ha
 |cons y l ih=>intro a ha;rw[List.foldl_cons];exact ih _ (fw ha (h y))
mutual
theorem cI{ts:List (Nod×Nod)}{who:Nod->Nat}{x:Nod}(h: ∀y,who y<2 ^ 64):(t:WayT)->crW ts who x t<2 ^ 64
 | .mk is over rel parts=>by
  rw[crW];by_cases h3:is=3
  ·rw[if_pos h3];exact fy h parts
  ·rw[if_neg h3]
   by_cases h4:is=4
   ·rw[if_pos h4];exact fA h parts
   ·rw[if_neg h4];exact Yq h _ _ (by decide)
theorem fy{ts:List (Nod×Nod)}{who:Nod->Nat}{x:Nod}(h: ∀y,who y<2 ^ 64):(l:List WayT)->crO ts who x l<2 ^ 64
 | []=>by rw[crO];decide
 |t::l=>by rw[crO];exact fw (cI h t) (fy h l)
theorem fA{ts:List (Nod×Nod)}{who:Nod->Nat}{x:Nod}(h: ∀y,who y<2 ^ 64):(l:List WayT)->crA ts who x l<2 ^ 64
 | []=>by rw[crA];decide
 |t::l=>by rw[crA];exact Nat.and_lt_two_pow _ (fA h l)
end
theorem QJ(ha:a<2 ^ 64)(hb:b<2 ^ 64)(h: ∀i,i<64->(a.testBit i=true↔b.testBit i=true)):a=b:=by
 refine Nat.eq_of_testBit_eq λi=>?_;rcases Uh i 64 with hi|hi
 ·have:=h i hi
  cases h1:a.testBit i<;>cases h2:b.testBit i
  ·rfl
  ·rw[this.2 h2]at h1;cases h1
  ·rw[this.1 h1]at h2;cases h2
  ·rfl
 ·rw[Nat.testBit_lt_two_pow (Ug ha (Nat.pow_le_pow_right (by decide) hi)),Nat.testBit_lt_two_pow (Ug hb (Nat.pow_le_pow_right (by decide) hi))]
def upd(who:Nod->Nat)(x:Nod)(c:Nat):Nod->Nat:=λy=>if y=x then c else who y
def kD(a:Nat):Nat:=(List.range 64).countP λi=> !a.testBit i
def uD(who:Nod->Nat)(l:List Nod):Nat:=(l.map λx=>kD (who x)).sum
structure SInv(ts:List (Nod×Nod))(rule:Nod->WayT)(met us:List Nod)(who:Nod->Nat)(pend:Nod->Prop):Prop where
 small: ∀y,who y<2 ^ 64
 things: ∀y:Nod,y.isTh=true-> ∀i,i<64->((who y).testBit i=true↔us[i]?=some y)
 up: ∀x∈met,∀i,i<64->(who x).testBit i=true->(crW ts who x (rule x)).testBit i=true
 fix: ∀x∈met,crW ts who x (rule x)=who x\/pend x
 sound: ∀x:Nod,x.isTh=false-> ∀i,i<64-> ∀u,us[i]?=some u->(who x).testBit i=true->Std ts rule u x
 nodes: ∀x∈met,x.isTh=false
variable{t:WayT}
theorem fC{who':Nod->Nat}(hi:i<64)(h: ∀y,(who y).testBit i=true->(who' y).testBit i=true)(hb:(crW ts who x t).testBit i=true):(crW ts who' x t).testBit i=true:=
 (ie hi t).2 (uM t (λy _=>h y) ((ie hi t).1 hb))
variable{c:Nat}
theorem Yr{z:Nod}(hz:z∉qY ts x t)(hi:i<64):(crW ts (upd who z c) x t).testBit i=true↔(crW ts who x t).testBit i=true:=by
 rw[ie hi,ie hi];have e: ∀y∈qY ts x t,upd who z c y=who y:=λy hy=>by
  unfold upd;rw[if_neg];intro h;exact hz (h▸hy)
 exact⟨uM t λy hy h=>by rw[e y hy]at h;exact h,uM t λy hy h=>by rw[e y hy];exact h⟩
variable{met us:List Nod}{pend:Nod->Prop}
theorem fD(h:SInv ts rule met us who pend)(hi:i<64)(hu:us[i]?=some u)(hb:(crW ts who x (rule x)).testBit i=true):Std ts rule u x:=by
 refine Std.step ?_;refine uM _ (λy _ hy=>?_) ((ie hi _).1 hb);unfold inU;split
 ·rename_i e
  have:=(h.things y e i hi).1 hy;rw[hu]at this;injection this with this;exact this.symm
 ·rename_i e
  exact h.sound y (by simpa using e) i hi u hu hy
theorem SInv.next{pend':Nod->Prop}(h:SInv ts rule met us who pend)(hx:x∈met)
  (hp: ∀y,pend y->y≠x->pend' y) (hn:crW ts who x (rule x)≠who x-> ∀y∈met,x∈qI ts rule y->pend' y):
  SInv ts rule met us (upd who x (crW ts who x (rule x))) pend':=by
 have h3:=h.nodes x hx;have h2: ∀i,i<64-> ∀y,(who y).testBit i=true->(upd who x (crW ts who x (rule x)) y).testBit i=true:=by
  intro i hi y hy;unfold upd;split
  ·rename_i e;subst e;exact h.up y hx i hi hy
  ·exact hy
 have h5: ∀y:Nod,y.isTh=true->upd who x (crW ts who x (rule x)) y=who y:=by
  intro y hy;unfold upd;rw[if_neg];intro e;rw[e,h3]at hy;cases hy
 have h4: ∀y,upd who x (crW ts who x (rule x)) y<2 ^ 64:=by
  intro y;unfold upd;split
  ·exact cI h.small _
  ·exact h.small y
 refine⟨h4,λy hy i hi=>by rw[h5 y hy];exact h.things y hy i hi,?_,?_,?_,h.nodes⟩
 ·intro y hy i hi hb
  unfold upd at hb;split at hb
  ·rename_i e;subst e;exact fC hi (h2 i hi) hb
  ·exact fC hi (h2 i hi) (h.up y hy i hi hb)
 ·intro y hy
  by_cases hc:crW ts who x (rule x)=who x
  ·have he:upd who x (crW ts who x (rule x))=who:=by
    funext z;unfold upd;split
    ·rename_i e;rw[hc,e]
    ·rfl
   rw[he];by_cases e:y=x
   ·left;rw[e];exact hc
   ·rcases h.fix y hy with h1|h1
    ·exact Or.inl h1
    ·exact Or.inr (hp y h1 e)
  ·by_cases hm:x∈qY ts y (rule y)
   ·exact Or.inr (hn hc y hy (OW.2 ⟨hm,by rw[h3];rfl⟩))
   ·have h0:crW ts (upd who x (crW ts who x (rule x))) y (rule y)=crW ts who y (rule y):=
     QJ (cI h4 _) (cI h.small _) λi hi=>Yr hm hi
    by_cases e:y=x
    ·left;rw[h0,e];unfold upd;rw[if_pos rfl]
    ·rcases h.fix y hy with h1|h1
     ·left;rw[h0,h1];unfold upd;rw[if_neg e]
     ·exact Or.inr (hp y h1 e)
 ·intro y hy i hi u hu hb
  unfold upd at hb;split at hb
  ·rename_i e;subst e;exact fD h hi hu hb
  ·exact h.sound y hy i hi u hu hb
theorem SInv.done(h:SInv ts rule met us who pend)(hp: ∀x∈met,¬pend x)(hc: ∀x∈met,∀y∈qI ts rule x,y∈met)(hx:x∈met)(hi:i<64)(hu:us[i]?=some u):
  (who x).testBit i=true↔Std ts rule u x:=by
 refine⟨h.sound x (h.nodes x hx) i hi u hu,λhs=>?_⟩;refine Std.in (S:=(· ∈met)) (W:=λy=>(who y).testBit i=true) hc ?_ hx hs;intro y hy ht;have e:=(h.fix y hy).resolve_right (hp y hy);rw[←e];refine(ie hi _).2 (uM _ (λz _ hz=>?_) ht);unfold inU at hz;split at hz
 ·rename_i e2
  rw[hz];rw[hz]at e2;exact(h.things u e2 i hi).2 hu
 ·exact hz
theorem Ge(h: ∀i,i<64->a.testBit i=true->b.testBit i=true)(ha:a<2 ^ 64)(hb:b<2 ^ 64)(h3:b≠a):kD b<kD a:=by
 unfold kD;have key: ∃i,i<64/\b.testBit i=true/\a.testBit i=false:=by
  refine Classical.byContradiction λhn=>h3 (QJ hb ha λi hi=>⟨λh4=>?_,h i hi⟩);cases e:a.testBit i
  ·exact absurd ⟨i,hi,h4,e⟩ hn
  ·rfl
 obtain⟨i,hi,h1,h2⟩:=key;have h5: ∀l:List Nat,(∀j∈l,j<64)->l.countP (λi=> !b.testBit i)<=l.countP (λi=> !a.testBit i)/\(i∈l->l.countP (λi=> !b.testBit i)<l.countP (λi=> !a.testBit i)):=by
  intro l
  induction l with
  |nil=>intro _;exact⟨Uc _,λh=>by cases h⟩
  |cons j l ih=>
   intro hl;obtain⟨i1,i2⟩:=ih λj hj=>hl j (by simp[hj])
   have hj:=hl j (by simp)
   rw[List.countP_cons,List.countP_cons];have hm:(if(!b.testBit j)=true then 1 else 0)<=(if(!a.testBit j)=true then 1 else 0):=by
    cases ea:a.testBit j
    ·cases b.testBit j<;>simp
    ·rw[h j hj ea];simp
   refine⟨by omega,λh0=>?_⟩
   rcases OT.1 h0 with e|e
   ·subst e
    rw[h1,h2];simp;omega
   ·have:=i2 e;omega
 exact(h5 (List.range 64) (λj hj=>List.mem_range.1 hj)).2 (List.mem_range.2 hi)
theorem fE: ∀(l:List Nod),kD c<=kD (who x)->uD (upd who x c) l<=uD who l/\(x∈l->kD c<kD (who x)->uD (upd who x c) l<uD who l):=by
 intro l
 induction l with
 |nil=>intro _;exact⟨Uc _,λh=>by cases h⟩
 |cons y l ih=>
  intro h;obtain⟨i1,i2⟩:=ih h;unfold uD at i1 i2 ⊢;rw[List.map_cons,List.map_cons,List.sum_cons,List.sum_cons];by_cases e:y=x
  ·have:kD (upd who x c y)=kD c:=by unfold upd;rw[if_pos e]
   rw[this,e];exact⟨by omega,λ_ h0=>by omega⟩
  ·have:kD (upd who x c y)=kD (who y):=by unfold upd;rw[if_neg e]
   rw[this];refine⟨by omega,λhm h0=>?_⟩
   rcases OT.1 hm with e2|e2
   ·exact absurd e2.symm e
   ·have:=i2 e2 h0;omega
open Go.RowKit in theorem bl {n : Nat} {w w' : World} (h : Below n w w' := by repeat (first | exact Ou _ _ | refine Below.setCell ?_ (by first | exact Uc _ | (simp; done) | (simp; omega)) _ | refine below_drewN ?_ _ | refine Below.drew ?_ | refine Below.alloc ?_ (by first | exact Uc _ | (simp; done) | (simp; omega)) _)) : Below n w w' := h
