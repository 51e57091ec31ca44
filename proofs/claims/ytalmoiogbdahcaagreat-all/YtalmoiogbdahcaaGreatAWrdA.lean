import Derived.Test.YtalmoiogbdahcaaGreatAUtf
import Derived.Test.YtalmoiogbdahcaaGreatALawB
import Derived.Lib.Slices
import Derived.Lib.Walk
import Derived.Lib.Bytealg
open Go.Proofs.Tryz
namespace Go.Proofs.YtalmoiogbdahcaaGreat
set_option maxRecDepth 100000
set_option maxHeartbeats 8000000
open Go.RowKit
structure Rd where
 rest:BA
 opn:Int
 failed:Bool
def zg(w:World)(r:Nat)(q:Rd):Prop:=w.heap[r]?=some (.cells [Value.string q.rest,.int .i64 q.opn,.bool q.failed].toArray 141 (0,0))
variable{q:Rd}{r:Nat}{w:World}
theorem uX(h:zg w r q):w.cell? ⟨r,0,none⟩=some (.string q.rest)/\w.cell? ⟨r,1,none⟩=some (.int .i64 q.opn)/\w.cell? ⟨r,2,none⟩=some (.bool q.failed)/\w.frozen? ⟨r,0,none⟩=false/\w.frozen? ⟨r,1,none⟩=false/\w.frozen? ⟨r,2,none⟩=false:=
 ⟨qa h rfl,qa h rfl,qa h rfl,qd h _,qd h _,qd h _⟩
theorem pu(h:zg w r q)(s:BA):zg (w.setCell ⟨r,0,none⟩ (.string s)) r {q with rest:=s}:=qL h 0 _
theorem ef(h:zg w r q)(n:Int):zg (w.setCell ⟨r,1,none⟩ (.int .i64 n)) r {q with opn:=n}:=qL h 1 _
theorem YL(h:zg w r q)(b:Bool):zg (w.setCell ⟨r,2,none⟩ (.bool b)) r {q with failed:=b}:=qL h 2 _
def Rd.fail(q:Rd):Rd:={q with rest:={data:= #[]},failed:=true}
def qP(s m:BA):Bool:=decide (m.size<=s.size) && ((s.extract 0 m.size).toList==m.toList)
def Rd.sees(q:Rd)(m:BA):Rd:=if qP q.rest m then{q with rest:=q.rest.extract m.size q.rest.size}else q
def Rd.must(q:Rd)(m:BA):Rd:=if qP q.rest m then q.sees m else q.fail
def Rd.ended(q:Rd):Bool:=decide (q.rest.size=0) && !q.failed
theorem iV(r:Nat)(q:Rd)(w:World)(h:zg w r q):
  Calls prog 160 #[.pointer (some ⟨r,0,none⟩)] w λe w'=>e=.returned (.tuple #[])/\zg w' r q.fail/\w.grownBy w' (some r):=by
 obtain⟨h0,h1,h2,f0,f1,f2⟩:=uX h;go_enter func160,ntmps160;go_wp2
 go_end0
 exact⟨rfl,YL (pu h _) _,zf (zf (xD _ _) _ _) _ _⟩
theorem eh{s m:BA}(h:qP s m=true):m.size<=s.size/\((s.extract 0 m.size).toList==m.toList)=true:=by
 unfold qP at h;simpa using h
theorem oc(s m:BA)(w:World):
  Calls prog 193 #[.string s,.string m] w λe w'=>e=.returned (.bool (qP s m))/\w'=w:=by
 by_cases h:m.size<=s.size
 ·have hp:qP s m=((s.extract 0 m.size).toList==m.toList):=by unfold qP;rw[Up h,Bool.true_and]
  rw[hp];clear hp;go_enter func193,ntmps193;go_wp2;go_ret;exact⟨rfl,rfl⟩
 ·have hp:qP s m=false:=by unfold qP;rw[Uo h,Bool.false_and]
  rw[hp];clear hp;go_enter func193,ntmps193;go_wp2;go_ret;exact⟨rfl,rfl⟩
theorem vz(r:Nat)(q:Rd)(m:BA)(w:World)(h3:zg w r q):
  Calls prog 89 #[.pointer (some ⟨r,0,none⟩),.string m] w λe w'=>e=.returned (.bool (qP q.rest m))/\zg w' r (q.sees m)/\w.grownBy w' (some r):=by
 obtain⟨h0,h1,h2,f0,f1,f2⟩:=uX h3;have hp:=λw=>oc q.rest m w;unfold Rd.sees;cases hb:qP q.rest m
 ·rw[hb]at hp
  go_enter func89,ntmps89
  go_wp2_with(first|(go_at_call 193;refine(hp _).mono ?_;rintro e w' ⟨rfl,rfl⟩)|go_in)
  go_ret;exact⟨rfl,pu h3 _,zf (xD _ _) _ _⟩
 ·rw[hb]at hp
  have h4:=(eh hb).1;go_enter func89,ntmps89
  go_wp2_with(first|(go_at_call 193;refine(hp _).mono ?_;rintro e w' ⟨rfl,rfl⟩)|go_in)
  go_ret;exact⟨rfl,pu h3 _,zf (xD _ _) _ _⟩
theorem qr{a b c:World}(h:a.grownBy b (some r))(g:b.grownBy c (some r)):a.grownBy c (some r):=
 ⟨g.os.trans h.os,g.tape.trans h.tape,g.output.trans h.output,Ue h.size g.size,λk hk hne=>(g.block k (Ug hk h.size) hne).trans (h.block k hk hne)⟩
theorem iW(r:Nat)(q:Rd)(m:BA)(w:World)(h5:zg w r q):
  Calls prog 105 #[.pointer (some ⟨r,0,none⟩),.string m] w λe w'=>e=.returned (.tuple #[])/\zg w' r (q.must m)/\w.grownBy w' (some r):=by
 have h0:=vz r q m w h5;unfold Rd.must;cases hb:qP q.rest m
 ·rw[hb]at h0
  go_enter func105,ntmps105
  go_wp2_with(first|(go_at_call 89;refine h0.mono ?_;rintro e w1 ⟨rfl,h2,h1⟩)|(go_at_call 160;refine(iV r _ _ h2).mono ?_;rintro e w2 ⟨rfl,h3,h4⟩))
  go_end0
  refine⟨rfl,?_,qr h1 h4⟩;have e:(q.sees m).fail=q.fail:=by unfold Rd.sees;rw[hb];rfl
  rw[e]at h3;exact h3
 ·rw[hb]at h0
  go_enter func105,ntmps105
  go_wp2_with(go_at_call 89;refine h0.mono ?_;rintro e w1 ⟨rfl,h2,h1⟩)
  go_end0
  exact⟨rfl,h2,h1⟩
theorem ek(s:BA)(h:s.size=0):s.toList.isEmpty=true:=by
 rw[Lib.toList_data,List.isEmpty_iff];exact Oy (by simpa using h)
theorem tK(s:BA)(h:0<s.size):s.toList.isEmpty=false:=by
 rw[Lib.toList_data,List.isEmpty_eq_false_iff];intro e;have h2:s.data.toList.length=0:=by rw[e];rfl
 have h3:s.data.toList.length=s.size:=by simp
 omega
theorem ao(r:Nat)(q:Rd)(w:World)(h3:zg w r q):
  Calls prog 91 #[.pointer (some ⟨r,0,none⟩)] w λe w'=>e=.returned (.bool q.ended)/\w'=w:=by
 obtain⟨h0,h1,h2,f0,f1,f2⟩:=uX h3;unfold Rd.ended;clear h3;obtain⟨s,n,b⟩:=q;dsimp only at h0 h1 h2 ⊢;by_cases hz:s.size=0
 ·have he:=ek s hz
  rw[Up hz,Bool.true_and];clear hz;go_enter func91,ntmps91;go_wp2;go_ret;exact⟨rfl,rfl⟩
 ·have he:=tK s (by omega)
  rw[Uo hz,Bool.false_and];clear hz;go_enter func91,ntmps91;go_wp2;go_ret;exact⟨rfl,rfl⟩
theorem iE(s m:BA)(w:World):
  Calls prog 152 #[.string s,.string m] w λe w'=>e=.returned (.bool (qP s m))/\w'=w:=by
 have hp:=λw=>oc s m w;go_enter func152,ntmps152
 go_wp2_with(go_at_call 193;refine(hp _).mono ?_;rintro e w' ⟨rfl,rfl⟩)
 go_ret;exact⟨rfl,rfl⟩
def ep:BA:={data:= #[239,191,189]}
def vN(c:Int)(s:BA):Bool:=decide (c=65533) && !qP s ep
theorem Xh(c:Int)(s:BA)(w:World):
  Calls prog 184 #[.int .i32 c,.string s] w λe w'=>e=.returned (.bool (vN c s))/\w'=w:=by
 have hp:=λw=>iE s ep w;unfold vN;by_cases hc:c=65533
 ·subst hc
  rw[Up rfl,Bool.true_and];go_enter func184,ntmps184
  go_wp2_with(go_at_call 152;refine(hp _).mono ?_;rintro e w' ⟨rfl,rfl⟩)
  go_ret;exact⟨rfl,rfl⟩
 ·have hb:(c==65533)=false:=by simpa using hc
  rw[Uo hc,Bool.false_and];go_enter func184,ntmps184;go_wp2;go_ret;exact⟨rfl,rfl⟩
theorem aq(s:BA)(c:Int)(w:World):
  Calls prog 236 #[.string s,.int .u8 c] w λe w'=>e=.returned (.int .i64 (Lib.indexByte s.data.toList c.toNat.toUInt8))/\w'=w:=by
 go_enter func236,ntmps236;go_wp2;rw[run_callFunc_extern func237 (by kernel_rfl) (by kernel_rfl) (by kernel_rfl) (e:=Extern.BytealgIndexByte.indexByte) (by kernel_rfl),Lib.run_indexByteString]
 simp only[Result.andThen];rw[Oper.upon_value];go_wp2;go_ret;exact⟨rfl,rfl⟩
theorem jR(s:BA)(c:Int)(w:World):
  Calls prog 232 #[.string s,.int .u8 c] w λe w'=>e=.returned (.int .i64 (Lib.indexByte s.data.toList c.toNat.toUInt8))/\w'=w:=by
 go_enter func232,ntmps232
 go_wp2_with(go_at_call 236;refine(aq _ _ _).mono ?_;rintro e w' ⟨rfl,rfl⟩)
 go_ret;exact⟨rfl,rfl⟩
def xu:BA:={data:= #[58,35,64,61,124,38,40,41,62,43,45]}
theorem Xi: ∀c:Fin 128,decide (0<=Lib.indexByte aJ (UInt8.ofNat c.val))=yf (c.val:Int):=by
 set_option maxRecDepth 100000 in decide
theorem dt(c:Int)(h:128<=c):yf c=false:=by
 unfold yf jY aJ;simp only[List.any_cons,List.any_nil,Bool.or_false];simp;omega
theorem gS: ∀(c:UInt8),128<=c.toNat-> ∀(l:List UInt8),(∀x∈l,x.toNat<128)->Lib.indexByte l c= -1:=by
 intro c hc l
 induction l with
 |nil=>intro _;rfl
 |cons x l ih=>
  intro h;have h1:=h x (by simp)
  have h2:=ih (λy hy=>h y (by simp[hy]))
  unfold Lib.indexByte;have:(x==c)=false:=by
   rw[beq_eq_false_iff_ne];intro e;subst e;omega
  rw[this,h2];rfl
theorem nF(c:Int)(w:World)(h0:0<=c)(h1:c<128):
  Calls prog 230 #[.string xu,.int .i32 c] w λe w'=>e=.returned (.int .i64 (Lib.indexByte aJ (UInt8.ofNat c.toNat)))/\w'=w:=by
 have hi:=λw=>jR xu c w;go_enter func230,ntmps230
 go_wp2_with(go_at_call 232;refine(hi _).mono ?_;rintro e w' ⟨rfl,rfl⟩)
 go_ret;exact⟨rfl,rfl⟩
theorem YM: ∀x∈aJ,x.toNat<128:=by decide
theorem dv(p:Nat)(h:p<xu.size):(xu[p]'h).toNat<128:=YM (aJ[p]'h) (List.getElem_mem h)
theorem wZ(w:World):
  Calls prog 230 #[.string xu,.int .i32 65533] w λe w'=>e=.returned (.int .i64 (-1))/\Below w.heap.size w w':=by
 go_enter func230,ntmps230;go_wp2
 go_loopw [5,6] (λ_ _ wr=> ∃p:Nat,p<=xu.size/\wr=w.iter xu p) (λ_ _ wr=>xu.size-wr.iterPos w.heap.size)
 case atStart=>exact⟨0,Um _,rfl⟩
 case round=>
  obtain⟨p,hp,rfl⟩:=hrel;by_cases h0:p<xu.size
  ·have ha:=dv p h0
   have hn:=run_next_ascii (P:=prog) w xu p 0 h0 ha;obtain⟨y,hy⟩: ∃y:Int,((xu[p]'h0).toNat:Int)=y:=⟨_,rfl⟩;have h1:(y==65533)=false:=by rw[beq_eq_false_iff_ne];omega
   rw[hy]at hn;clear hy ha;go_wp2
   go_roundw
   case rel=>exact⟨p+1,by omega,rfl⟩
   case measure=>simp;omega
  ·have hn:=run_next_end (P:=prog) w xu p 0 h0
   go_wp2;go_ret;exact⟨rfl,(Ou _ _).alloc (Uc _) _⟩
theorem YN(c:Int)(w:World)(h0:128<=c)(h1:c<=1114111)(h2:(c<55296)\/(57343<c))(h3:(c==65533)=false)(e0 e1:UInt8)(he:Utf8.encode c={data:= #[e0,e1]})(hz:128<=e1.toNat):
  Calls prog 230 #[.string xu,.int .i32 c] w λe w'=>e=.returned (.int .i64 (-1))/\Below w.heap.size w w':=by
 have hi: ∀(z:Int) w,z=e1.toNat->Calls prog 232 #[.string (xu.extract 2 11),.int .u8 z] w λe w'=>e=.returned (.int .i64 (-1))/\w'=w:=by
  intro z w h4;subst h4;have h:=jR (xu.extract 2 11) e1.toNat w;rw[gS _ (by simpa using hz) _ (by decide)]at h
  exact h
 have h8:(((xu[1]'(by decide)).toNat:Int) !=(e1.toNat:Int))=true:=by
  have:=dv 1 (by decide)
  rw[bne_iff_ne];omega
 have h7:xu.size=11:=rfl;have h6:IntKind.i64.wrap 2=2:=by decide
 have h5: ∀h,({data:= #[e0,e1]}:BA)[1]'h=e1:=λ_=>rfl;rcases h2 with h2|h2
 ·go_enter func230,ntmps230
  go_wp2
  go_step3
  go_wp2;refine wp_loop_rounds 1 ?_;rw[rounds_succ];go_wp2
  go_step3
  go_wp2
  go_quiet (fail)
  go_wp2
  go_quiet ((go_at_call 232;refine(hi _ _ rfl).mono ?_;rintro e w'' ⟨rfl,rfl⟩;exact⟨rfl,⟨_,rfl⟩⟩))
  go_wp2
  repeat(first|rw[Exit.noGoto_ret]|simp only[Exit.inBlock,Exit.then])
  go_ret;exact⟨rfl,below_drewN (Ou _ _) _⟩
 ·go_enter func230,ntmps230
  go_wp2
  go_step3
  go_wp2;refine wp_loop_rounds 1 ?_;rw[rounds_succ];go_wp2
  go_step3
  go_wp2
  go_quiet (fail)
  go_wp2
  go_quiet ((go_at_call 232;refine(hi _ _ rfl).mono ?_;rintro e w'' ⟨rfl,rfl⟩;exact⟨rfl,⟨_,rfl⟩⟩))
  go_wp2
  repeat(first|rw[Exit.noGoto_ret]|simp only[Exit.inBlock,Exit.then])
  go_ret;exact⟨rfl,below_drewN (Ou _ _) _⟩
theorem YO(c:Int)(w:World)(h0:128<=c)(h1:c<=1114111)(h2:(c<55296)\/(57343<c))(h3:(c==65533)=false)(e0 e1 e2:UInt8)(he:Utf8.encode c={data:= #[e0,e1,e2]})(hz:128<=e2.toNat):
  Calls prog 230 #[.string xu,.int .i32 c] w λe w'=>e=.returned (.int .i64 (-1))/\Below w.heap.size w w':=by
 have hi: ∀(z:Int) w,z=e2.toNat->Calls prog 232 #[.string (xu.extract 3 11),.int .u8 z] w λe w'=>e=.returned (.int .i64 (-1))/\w'=w:=by
  intro z w h4;subst h4;have h:=jR (xu.extract 3 11) e2.toNat w;rw[gS _ (by simpa using hz) _ (by decide)]at h
  exact h
 have h8:(((xu[2]'(by decide)).toNat:Int) !=(e2.toNat:Int))=true:=by
  have:=dv 2 (by decide)
  rw[bne_iff_ne];omega
 have h7:xu.size=11:=rfl;have h6:IntKind.i64.wrap 3=3:=by decide
 have h5: ∀h,({data:= #[e0,e1,e2]}:BA)[2]'h=e2:=λ_=>rfl;rcases h2 with h2|h2
 ·go_enter func230,ntmps230
  go_wp2
  go_step3
  go_wp2;refine wp_loop_rounds 1 ?_;rw[rounds_succ];go_wp2
  go_step3
  go_wp2
  go_quiet (fail)
  go_wp2
  go_quiet ((go_at_call 232;refine(hi _ _ rfl).mono ?_;rintro e w'' ⟨rfl,rfl⟩;exact⟨rfl,⟨_,rfl⟩⟩))
  go_wp2
  repeat(first|rw[Exit.noGoto_ret]|simp only[Exit.inBlock,Exit.then])
  go_ret;exact⟨rfl,below_drewN (Ou _ _) _⟩
 ·go_enter func230,ntmps230
  go_wp2
  go_step3
  go_wp2;refine wp_loop_rounds 1 ?_;rw[rounds_succ];go_wp2
  go_step3
  go_wp2
  go_quiet (fail)
  go_wp2
  go_quiet ((go_at_call 232;refine(hi _ _ rfl).mono ?_;rintro e w'' ⟨rfl,rfl⟩;exact⟨rfl,⟨_,rfl⟩⟩))
  go_wp2
  repeat(first|rw[Exit.noGoto_ret]|simp only[Exit.inBlock,Exit.then])
  go_ret;exact⟨rfl,below_drewN (Ou _ _) _⟩
theorem YP(c:Int)(w:World)(h0:128<=c)(h1:c<=1114111)(h2:(c<55296)\/(57343<c))(h3:(c==65533)=false)(e0 e1 e2 e3:UInt8)(he:Utf8.encode c={data:= #[e0,e1,e2,e3]})(hz:128<=e3.toNat):
  Calls prog 230 #[.string xu,.int .i32 c] w λe w'=>e=.returned (.int .i64 (-1))/\Below w.heap.size w w':=by
 have hi: ∀(z:Int) w,z=e3.toNat->Calls prog 232 #[.string (xu.extract 4 11),.int .u8 z] w λe w'=>e=.returned (.int .i64 (-1))/\w'=w:=by
  intro z w h4;subst h4;have h:=jR (xu.extract 4 11) e3.toNat w;rw[gS _ (by simpa using hz) _ (by decide)]at h
  exact h
 have h8:(((xu[3]'(by decide)).toNat:Int) !=(e3.toNat:Int))=true:=by
  have:=dv 3 (by decide)
  rw[bne_iff_ne];omega
 have h7:xu.size=11:=rfl;have h6:IntKind.i64.wrap 4=4:=by decide
 have h5: ∀h,({data:= #[e0,e1,e2,e3]}:BA)[3]'h=e3:=λ_=>rfl;rcases h2 with h2|h2
 ·go_enter func230,ntmps230
  go_wp2
  go_step3
  go_wp2;refine wp_loop_rounds 1 ?_;rw[rounds_succ];go_wp2
  go_step3
  go_wp2
  go_quiet (fail)
  go_wp2
  go_quiet ((go_at_call 232;refine(hi _ _ rfl).mono ?_;rintro e w'' ⟨rfl,rfl⟩;exact⟨rfl,⟨_,rfl⟩⟩))
  go_wp2
  repeat(first|rw[Exit.noGoto_ret]|simp only[Exit.inBlock,Exit.then])
  go_ret;exact⟨rfl,below_drewN (Ou _ _) _⟩
 ·go_enter func230,ntmps230
  go_wp2
  go_step3
  go_wp2;refine wp_loop_rounds 1 ?_;rw[rounds_succ];go_wp2
  go_step3
  go_wp2
  go_quiet (fail)
  go_wp2
  go_quiet ((go_at_call 232;refine(hi _ _ rfl).mono ?_;rintro e w'' ⟨rfl,rfl⟩;exact⟨rfl,⟨_,rfl⟩⟩))
  go_wp2
  repeat(first|rw[Exit.noGoto_ret]|simp only[Exit.inBlock,Exit.then])
  go_ret;exact⟨rfl,below_drewN (Ou _ _) _⟩
theorem Qa(c:Int)(h0:128<=c)(h1:c<=1114111)(h2:(c<55296)\/(57343<c)):
  (∃e0 e1,Utf8.encode c={data:= #[e0,e1]}/\128<=e1.toNat)\/(∃e0 e1 e2,Utf8.encode c={data:= #[e0,e1,e2]}/\128<=e2.toNat)\/(∃e0 e1 e2 e3,Utf8.encode c={data:= #[e0,e1,e2,e3]}/\128<=e3.toNat):=by
 have hv:Utf8.valid c=true:=by simp[Utf8.valid];omega
 have hb: ∀n:Nat,n<64->128<=(UInt8.ofNat (128+n)).toNat:=by
  intro n hn;rw[UInt8.toNat_ofNat'];omega
 unfold Utf8.encode;simp only[hv,if_true];split
 ·omega
 ·split
  ·exact Or.inl ⟨_,_,rfl,hb _ (Nat.mod_lt _ (by decide))⟩
  ·split
   ·exact Or.inr (Or.inl ⟨_,_,_,rfl,hb _ (Nat.mod_lt _ (by decide))⟩)
   ·exact Or.inr (Or.inr ⟨_,_,_,_,rfl,hb _ (Nat.mod_lt _ (by decide))⟩)
theorem Ko(c:Int)(w:World)(h0:0<=c)(h1:c<=1114111)(h2:(c<55296)\/(57343<c)):
  Calls prog 230 #[.string xu,.int .i32 c] w λe w'=>(∃i,e=.returned (.int .i64 i)/\decide (0<=i)=yf c)/\Below w.heap.size w w':=by
 by_cases ha:c<128
 ·refine(nF c w h0 ha).mono ?_
  rintro e w' ⟨rfl,rfl⟩;refine⟨⟨_,rfl,?_⟩,Ou _ _⟩;have:=Xi ⟨c.toNat,by omega⟩
  rw[this]
  congr 1
  show((c.toNat:Nat):Int)=c
  omega
 ·have hm:=dt c (by omega)
  have hd:decide ((0:Int)<= -1)=false:=by decide
  by_cases he:c=65533
  ·subst he
   refine(wZ w).mono ?_;rintro e w' ⟨rfl,hb⟩;exact⟨⟨_,rfl,by rw[hm];decide⟩,hb⟩
  ·have h3:(c==65533)=false:=by simpa using he
   rcases Qa c (by omega) h1 h2 with⟨e0,e1,h4,hz⟩|⟨e0,e1,e2,h4,hz⟩|⟨e0,e1,e2,e3,h4,hz⟩
   ·refine(YN c w (by omega) h1 h2 h3 e0 e1 h4 hz).mono ?_
    rintro e w' ⟨rfl,hb⟩;exact⟨⟨_,rfl,by rw[hm];decide⟩,hb⟩
   ·refine(YO c w (by omega) h1 h2 h3 e0 e1 e2 h4 hz).mono ?_
    rintro e w' ⟨rfl,hb⟩;exact⟨⟨_,rfl,by rw[hm];decide⟩,hb⟩
   ·refine(YP c w (by omega) h1 h2 h3 e0 e1 e2 e3 h4 hz).mono ?_
    rintro e w' ⟨rfl,hb⟩;exact⟨⟨_,rfl,by rw[hm];decide⟩,hb⟩
theorem ev(c:Int)(w:World)(h0:0<=c)(h1:c<=1114111)(h2:(c<55296)\/(57343<c)):
  Calls prog 216 #[.string xu,.int .i32 c] w λe w'=>e=.returned (.bool (yf c))/\Below w.heap.size w w':=by
 have hr:=λw=>Ko c w h0 h1 h2;clear h2;go_enter func216,ntmps216
 go_wp2_with(go_at_call 230;refine(hr _).mono ?_;rintro e w' ⟨⟨i,rfl,hi⟩,hb⟩)
 go_ret;exact⟨rfl,hb⟩
def ik(c:Int):Bool:=decide (33<=c) && !decide (c=127) && !yf c
theorem Xj(c:Int)(w:World)(h0:0<=c)(h1:c<=1114111)(h2:(c<55296)\/(57343<c)):
  Calls prog 183 #[.int .i32 c] w λe w'=>e=.returned (.bool (ik c))/\Below w.heap.size w w':=by
 have hr:=λw=>ev c w h0 h1 h2;clear h2;unfold ik;by_cases h33:33<=c
 ·by_cases h127:c=127
  ·subst h127
   go_enter func183,ntmps183;go_wp2;go_ret;exact⟨rfl,Ou _ _⟩
  ·have hb:(c !=127)=true:=by simpa using h127
   rw[Up h33,Uo h127];generalize yf c=m at *;go_enter func183,ntmps183
   go_wp2_with(go_at_call 216;refine(hr _).mono ?_;rintro e w' ⟨rfl,h3⟩)
   go_ret;exact⟨zo (by simp),h3⟩
 ·rw[Uo h33]
  go_enter func183,ntmps183;go_wp2;go_ret;exact⟨rfl,Ou _ _⟩
theorem Qb(s:BA)(p:Nat)(hc:(Utf8.decode s p).1=65533):
  (Utf8.decode s p).2=1\/((Utf8.decode s p).2=3/\p+2<s.size/\(s.get! p).toNat=239/\(s.get! (p+1)).toNat=191/\(s.get! (p+2)).toNat=189):=by
 have h2:=(s.get! p).toNat_lt;have h3:=(s.get! (p+1)).toNat_lt;have h0:=(s.get! (p+2)).toNat_lt;have h1:=(s.get! (p+3)).toNat_lt;have e0:s.get! (p+0)=s.get! p:=rfl;unfold Utf8.decode at hc ⊢;simp only[e0]at hc ⊢;generalize (s.get! p).toNat=b0 at *;generalize (s.get! (p+1)).toNat=b1 at *;generalize (s.get! (p+2)).toNat=b2 at *;generalize (s.get! (p+3)).toNat=b3 at *;by_cases q0:b0<128
 ·rw[if_pos q0]at hc;dsimp only at hc;omega
 rw[if_neg q0]at hc ⊢;by_cases q1:(b0/32==6 && (decide (p+1<s.size) && b1/64==2))=true
 ·rw[if_pos q1]at hc ⊢
  split at hc
  ·dsimp only at hc;omega
  ·left;rw[if_neg (by assumption)]
 rw[if_neg q1]at hc ⊢;by_cases q2:(b0/16==14 && (decide (p+1<s.size) && b1/64==2) && (decide (p+2<s.size) && b2/64==2))=true
 ·rw[if_pos q2]at hc ⊢
  split at hc
  ·right
   rw[if_pos (by assumption)]
   dsimp only at hc;simp at q2;refine⟨rfl,q2.2.1,?_,?_,?_⟩<;>omega
  ·left;rw[if_neg (by assumption)]
 rw[if_neg q2]at hc ⊢;by_cases q3:(b0/8==30 && (decide (p+1<s.size) && b1/64==2) && (decide (p+2<s.size) && b2/64==2) && (decide (p+3<s.size) && b3/64==2))=true
 ·rw[if_pos q3]at hc ⊢
  split at hc
  ·rename_i hq
   dsimp only at hc;simp at hq;omega
  ·left;rw[if_neg (by assumption)]
 rw[if_neg q3];left;rfl
theorem YQ(c:UInt8)(r:List UInt8)(h:128<=c.toNat):zd (c::r)=0\/2<=zd (c::r):=by
 have ht: ∀n a l,1<=n->ze n a l r=0\/2<=ze n a l r:=by
  intro n a l hn;unfold ze;split
  ·left;rfl
  ·split
   ·left;rfl
   ·split
    ·left;rfl
    ·right;omega
 rw[yv,if_neg (by omega)]
 split
 ·exact ht _ _ _ (by omega)
 ·split
  ·exact ht _ _ _ (by omega)
  ·split
   ·exact ht _ _ _ (by omega)
   ·left;rfl
theorem Xk(x y:UInt8):(x=y)↔(x.toNat=y.toNat):=UInt8.toNat_inj.symm
theorem QS(s:BA)(p:Nat):qP (s.extract p s.size) ep=decide (p+2<s.size/\(s.get! p).toNat=239/\(s.get! (p+1)).toNat=191/\(s.get! (p+2)).toNat=189):=by
 unfold qP;have h3:ep.size=3:=rfl;rw[h3,ByteArray.size_extract,Lib.toList_data,Lib.toList_data,yD,xO];by_cases h2:p+2<s.size
 ·have h0:p<s.size:=by omega
  have h1:p+1<s.size:=by omega
  rw[zT s p h0,zT s (p+1) h1,zT s (p+1+1) h2,um s p h0,um s (p+1) h1,um s (p+2) h2];rw[Up (by omega:3<=min s.size s.size-p),Bool.true_and]
  rw[Bool.eq_iff_iff,beq_iff_eq,decide_eq_true_eq];simp only[List.take_succ_cons,List.take_zero];show([s[p],s[p+1],s[p+1+1]]=[239,191,189])↔_
  simp only[List.cons.injEq,and_true,Xk,h2,true_and]
  rfl
 ·rw[Uo (by omega: ¬3<=min s.size s.size-p),Bool.false_and]
  symm
  rw[decide_eq_false_iff_not];omega
def kr(s:BA)(p:Nat):Bool:=decide (zd (s.data.toList.drop p)≠0) && !zv (s.data.toList.getD p 0).toNat
theorem Kp(s:BA)(p:Nat)(h:p<s.size):(ik (Utf8.decode s p).1 && !vN (Utf8.decode s p).1 (s.extract p s.size))=kr s p:=by
 have h8:(s.data.toList.getD p 0).toNat=(s[p]'h).toNat:=by
  rw[List.getD_eq_getElem?_getD,OC (by simpa using h)];rfl
 unfold kr;rw[h8];have h9:=zT s p h;rcases mq s p h with⟨h1,h2,h3⟩|⟨h1,h2,hv,⟨h4,h5⟩|⟨h4,h5⟩⟩
 ·rw[h1,h2]
  have ha:qP (s.extract p s.size) ep=false:=by
   rw[QS,decide_eq_false_iff_not];rintro⟨q1,q2,q3,q4⟩;rw[um s p h]at q2;rw[um s (p+1) (by omega)]at q3
   rw[um s (p+2) q1]at q4;rw[zT s p h,zT s (p+1) (by omega),zT s (p+1+1) q1,yv,if_neg (by omega),if_neg (by omega),if_pos (by omega),KG,if_pos ?_]at h1
   ·omega
   ·rw[q2,q3]
    have h7:(s[p+1+1]'q1).toNat=189:=q4;rw[h7]
    decide
  unfold vN;rw[ha];simp
 ·have hb:vN ((Utf8.decode s p).1:Int) (s.extract p s.size)=false:=by
   unfold vN;rw[Uo (by omega),Bool.false_and]
  rw[hb,h1,h5];rw[Up (by omega)]
  unfold ik zv;generalize ((s[p]'h).toNat:Int)=x;cases yf x<;>simp
  ·by_cases h33:x<33
   ·simp[h33];omega
   ·have h0:decide (33<=x)=true:=Up (by omega)
    rw[h0,Uo h33];by_cases h127:x=127
    ·subst h127;rfl
    ·rw[Uo h127,beq_eq_false_iff_ne.2 h127];rfl
 ·have hn:ik ((Utf8.decode s p).1:Int)=true:=by
   unfold ik;rw[dt _ (by omega)]
   simp;omega
  have h6:zv ((s[p]'h).toNat:Int)=false:=by
   unfold zv;rw[dt _ (by omega)]
   simp;omega
  have hd:2<=(Utf8.decode s p).2:=by
   rw[h9]at h1;rcases YQ (s[p]'h) (s.data.toList.drop (p+1)) h4 with q|q
   ·omega
   ·omega
  have hb:vN ((Utf8.decode s p).1:Int) (s.extract p s.size)=false:=by
   unfold vN;by_cases hc:(Utf8.decode s p).1=65533
   ·rcases Qb s p hc with q|⟨-,q⟩
    ·omega
    ·rw[QS,Up q];simp
   ·rw[Uo (by omega),Bool.false_and]
  rw[hn,hb,h6,Up (by omega)]
