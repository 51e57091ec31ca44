import Derived.Test.YtalmoiogbdahcaaGreatAGhA
import Derived.Test.YtalmoiogbdahcaaGreatALibE
open Go.Proofs.Tryz
namespace Go.Proofs.YtalmoiogbdahcaaGreat
set_option maxRecDepth 100000
set_option maxHeartbeats 8000000
open Go.RowKit
structure Pg where
 lk:Int
 mb:Nat
 tv:Value
 ver:Int
 dk:Value
 cl:Bool
def Pg.cells(g:Pg):List Value:=[.int .i32 g.lk,.int .u32 0,.map (some g.mb),g.tv,.int .i64 g.ver,g.dk,.bool g.cl]
def zU(w:World)(b:Nat)(g:Pg):Prop:=w.heap[b]?=some (.cells g.cells.toArray 99 (0,0))
theorem bH(s:BA)(w:World):Calls prog 97 #[.string s] w λe w'=>e=.returned (.bool (qP s {data:= #[43]}||qP s {data:= #[45]}))/\w'=w:=by
 have h1:=λw=>iE s {data:= #[43]} w;have h2:=λw=>iE s {data:= #[45]} w;cases hb:qP s {data:= #[43]}
 ·rw[hb]at h1
  go_enter func97,ntmps97
  go_wp2_with(first|(go_at_call 152;refine(h1 _).mono ?_;clear h1;rintro e w1 ⟨rfl,h0⟩;subst w1)|(go_at_call 152;refine(h2 _).mono ?_;rintro e w1 ⟨rfl,h0⟩;subst w1))
  go_ret;exact⟨rfl,rfl⟩
 ·rw[hb]at h1
  go_enter func97,ntmps97
  go_wp2_with(first|(go_at_call 152;refine(h1 _).mono ?_;clear h1;rintro e w1 ⟨rfl,h0⟩;subst w1))
  go_ret;exact⟨rfl,rfl⟩
theorem Jt(k n r:BA)(w:World):Calls prog 92 #[.agg #[.string k,.string n,.string r]] w λe w'=>e=.returned (.agg #[.string k,.string r])/\Below w.heap.size w w':=by
 go_enter func92,ntmps92;go_wp2;exact bodyPost_ret (v:=.agg #[.string k,.string r]) (by simp[results,results92,go_sem]) rfl ⟨rfl,bl⟩
theorem wu(k n r:BA)(w:World):Calls prog 99 #[.agg #[.string k,.string n,.string r]] w λe w'=>e=.returned (.bool (decide (r.size=0)))/\Below w.heap.size w w':=by
 by_cases h:r.size=0
 ·have he:=ek r h
  rw[Up h];go_enter func99,ntmps99;go_wp2;go_ret;exact⟨rfl,bl⟩
 ·have he:=tK r (by omega)
  rw[Uo h];go_enter func99,ntmps99;go_wp2;go_ret;exact⟨rfl,bl⟩
theorem XO(w:World)(a c:Obj):w.heap.size+1<((w.alloc a).alloc c).drew.heap.size:=by
 show _<((w.heap.push a).push c).size
 simp
def kW(m:List (Value×Value)):Prop:= ∀p∈m,∃is a b x n c,p.2=.agg #[.int .i64 is,.string a,.string b,.slice x n c]
variable{m:List (Value×Value)}
theorem Ju(h:kW m)(k:Value): ∃is a b x n c,(getM m k).getD (.agg #[.int .i64 0,.string {data:= #[]},.string {data:= #[]},.slice none 0 0])=.agg #[.int .i64 is,.string a,.string b,.slice x n c]:=by
 cases hg:getM m k with
 |none=>exact⟨_,_,_,_,_,_,rfl⟩
 |some v=>exact h (k,v) (jX hg)
theorem RMap.ways{w:World}{lo:Nat}{xs:List BA}(h:RMap w lo xs m):kW m:=by
 intro p hp;obtain⟨i,hi⟩:=OX.1 hp;have h0:=(OE.1 hi).1;rw[h.len]at h0;exact(h.way i _ _ (OC h0) hi).agg
theorem dE(b:Nat)(g:Pg)(m:List (Value×Value))(ha:kW m)(k n r:BA)(hk:k.size<=maxLen)(hr:r.size<=maxLen)(w:World)(hg:zU w b g)(hm:zt w yX g.mb m):
  Calls prog 47 #[.pointer (some ⟨b,0,none⟩),.agg #[.string k,.string n,.string r]] w λe w'=>e=.returned (.bool (getM m (zl k r)).isSome)/\Below w.heap.size w w':=by
 have h2:=qa hg (j:=2) rfl;have h9:=λo=>qa (qG hg o) (j:=2) rfl;have hl:b<w.heap.size:=qc hg;have HM:Hid (zt w yX g.mb m):=hm;obtain⟨zi,za,zb,zx,zn,zc,hz⟩:=Ju ha (zl k r);have h3:Hid (∀w2,Below w.heap.size w w2->(Instr.lookup 96 (.map (some g.mb)) (.agg #[.string k,.string r]) true).run prog w2=.ok (.tuple #[.agg #[.int .i64 zi,.string za,.string zb,.slice zx zn zc],.bool (getM m (zl k r)).isSome]) w2):=by
  intro w2 h7;rw[←hz];exact(uV pp underlying96 (HM.out.move (h7.block _ HM.out.lt)) ⟨k,r,rfl,hk,hr⟩ (Tryz.zeroWay w2)).1
 clear hz;generalize (getM m (zl k r)).isSome=ok at *;have HG:Hid (zU w b g):=hg;clear hm hg;go_enter func47,ntmps47;go_wp2
 go_region_with(go_at_call 92;refine(Jt k n r _).mono ?_;rintro e w1 ⟨rfl,h1⟩;have h0:Below w.heap.size w w1:=Below.trans bl (h1.mono (by simp<;>omega));have hb:=h3.out w1 h0;have h6:=λo=>h3.out (w1.alloc o) (h0.alloc h0.size _);have h5:=(h0.cell (p:=⟨b,2,none⟩) hl).trans h2;have h8:=λo=>(World.cell?_of_block (a:=⟨b,2,none⟩) (Oq w1 o b (Ug hl h0.size))).trans h5;first|(have hd:=λo=>h1.cell (p:=⟨w.heap.size+1,o,none⟩) (XO w _ _);have hc:=λo=>h1.frozen (p:=⟨w.heap.size+1,o,none⟩) (XO w _ _))|skip)
 all_goals go_wp2
 all_goals go_ret
 all_goals refine⟨rfl,?_⟩
 all_goals have h4:=h0.size
 all_goals repeat(first|exact h0|refine Below.setCell ?_ (by first|exact h4|(simp<;>omega)) _|refine Below.drew ?_|refine Below.alloc ?_ (by first|exact h4|(simp<;>omega)) _)
theorem jy(s:BA):(zk s).size<=s.size:=by
 unfold zk;split
 ·simp;omega
 ·exact Um _
theorem dF(q:Rd):(zm q).kind.size<=q.rest.size/\(zm q).rel.size<=q.rest.size:=by
 have e1:(zm q).kind=zk q.rest:=rfl;have e2:(zm q).rel={data:= #[]}:=rfl;rw[e1,e2];exact⟨jy _,Um _⟩
theorem pS(q:Rd):(jD q).kind.size<=q.rest.size/\(jD q).rel.size<=q.rest.size:=by
 have e1:(jD q).kind=(zm q).kind:=rfl;have e2:(jD q).rel=zk (q.thing.must {data:= #[35]}).rest:=rfl;rw[e1,e2];have h1:=xE q.thing {data:= #[35]};have h2:=iF q;have h3:=jy (q.thing.must {data:= #[35]}).rest;exact⟨(dF q).1,by omega⟩
theorem ne(q:Rd):(yk q).kind.size<=q.rest.size/\(yk q).rel.size<=q.rest.size:=by
 unfold yk;split
 ·have h1:=yj q.thing {data:= #[35]}
  have h2:=iF q;have h3:=jy (q.thing.sees {data:= #[35]}).rest;exact⟨(dF q).1,by show(zk (q.thing.sees {data:= #[35]}).rest).size<=_;omega⟩
 ·exact dF q
theorem XP(t:BA):(qM t).kind.size<=t.size/\(qM t).rel.size<=t.size/\(zL t).kind.size<=t.size/\(zL t).rel.size<=t.size:=by
 have h0:(rd0 t).rest.size=t.size:=rfl;have hn:=au (rd0 t);have hm:=xE (rd0 t).node {data:= #[64]};have h1:=pS (rd0 t);have h2:=ne ((rd0 t).node.must {data:= #[64]});unfold qM zL;rw[h0]at h1 hn;exact⟨h1.1,h1.2,by omega,by omega⟩
theorem ww(b:Nat)(g:Pg)(m:List (Value×Value))(ha:kW m)(x:BA)(hx:x.size<=140737488355328)(w:World)(hg:zU w b g)(hm:zt w yX g.mb m):
  Calls prog 53 #[.pointer (some ⟨b,0,none⟩),.string x] w λe w'=>e=.returned (.int .i64 (faultG m x))/\Below w.heap.size w w':=by
 have h7:=λw=>bH x w;have HR:Hid (∀(k n r:BA),k.size<=maxLen->r.size<=maxLen-> ∀w1,Below w.heap.size w w1->Calls prog 47 #[.pointer (some ⟨b,0,none⟩),.agg #[.string k,.string n,.string r]] w1 λe w'=>e=.returned (.bool (getM m (zl k r)).isSome)/\Below w1.heap.size w1 w'):=
  λk n r hk hr w1 hb=>dE b g m ha k n r hk hr w1 (by unfold zU;rw[hb.block b (qc hg)];exact hg) (hm.move (hb.block _ hm.lt))
 clear hg hm ha;unfold faultG;cases hsg:(qP x {data:= #[43]}||qP x {data:= #[45]})
 ·rw[hsg]at h7
  rw[if_pos rfl];go_enter func53,ntmps53
  go_wp2_with(go_at_call 97;refine(h7 _).mono ?_;rintro e w1 ⟨rfl,he⟩;subst w1)
  go_ret;exact⟨rfl,Ou _ _⟩
 ·rw[hsg]at h7
  rw[if_neg (by decide)]
  have hi:1<=x.size:=by
   by_cases h0:x.size=0
   ·have:=(dD x).2 (Or.inl h0)
    rw[hsg]at this;cases this
   ·omega
  have h9:(x.extract 1 x.size).size<=maxLen:=by unfold maxLen;simp;omega
  have h6:=λw=>od (x.extract 1 x.size) w h9;obtain⟨z1,z2,z3,z4⟩:=XP (x.extract 1 x.size);clear hsg;unfold pD at h6;cases hok:xG (x.extract 1 x.size)
  ·rw[hok]at h6
   rw[if_pos rfl];simp only[Bool.false_eq_true,if_false]at h6;clear HR z1 z2 z3 z4 h9 hok;go_enter func53,ntmps53
   go_wp2_with(first|(go_at_call 97;refine(h7 _).mono ?_;rintro e w1 ⟨rfl,he⟩;subst w1)|(go_at_call 98;refine(h6 _).mono ?_;rintro e w2 ⟨rfl,h1⟩))
   go_ret;exact⟨rfl,h1.alloc h1.size _⟩
  ·rw[hok]at h6
   rw[if_neg (by decide)]
   simp only[if_true]at h6;clear hok;have HN:Hid (∀w1,Below w.heap.size w w1->Calls prog 47 #[.pointer (some ⟨b,0,none⟩),.agg #[.string (qM (x.extract 1 x.size)).kind,.string (qM (x.extract 1 x.size)).name,.string (qM (x.extract 1 x.size)).rel]] w1 λe w'=>e=.returned (.bool (getM m (zl (qM (x.extract 1 x.size)).kind (qM (x.extract 1 x.size)).rel)).isSome)/\Below w1.heap.size w1 w'):=λw1 hb=>HR.out _ _ _ (Ue z1 h9) (Ue z2 h9) w1 hb;have HS:Hid (∀w1,Below w.heap.size w w1->Calls prog 47 #[.pointer (some ⟨b,0,none⟩),.agg #[.string (zL (x.extract 1 x.size)).kind,.string (zL (x.extract 1 x.size)).name,.string (zL (x.extract 1 x.size)).rel]] w1 λe w'=>e=.returned (.bool (getM m (zl (zL (x.extract 1 x.size)).kind (zL (x.extract 1 x.size)).rel)).isSome)/\Below w1.heap.size w1 w'):=λw1 hb=>HR.out _ _ _ (Ue z3 h9) (Ue z4 h9) w1 hb;clear HR z1 z2 z3 z4 h9;generalize (getM m (zl (qM (x.extract 1 x.size)).kind (qM (x.extract 1 x.size)).rel)).isSome=f1 at *;generalize (getM m (zl (zL (x.extract 1 x.size)).kind (zL (x.extract 1 x.size)).rel)).isSome=f2 at *;generalize (qM (x.extract 1 x.size)).kind=a1 at *;generalize (qM (x.extract 1 x.size)).name=a2 at *;generalize (qM (x.extract 1 x.size)).rel=a3 at *;generalize (zL (x.extract 1 x.size)).kind=b1 at *;generalize (zL (x.extract 1 x.size)).name=b2 at *;generalize (zL (x.extract 1 x.size)).rel=b3 at *;have hd:=λw=>wu b1 b2 b3 w;cases f1
   ·rw[if_pos (Or.inl rfl)]
    clear HS hd;go_enter func53,ntmps53
    go_wp2_with(first|(go_at_call 97;refine(h7 _).mono ?_;rintro e w1 ⟨rfl,he⟩;subst w1)|(go_at_call 98;refine(h6 _).mono ?_;rintro e w2 ⟨rfl,h1⟩)|(go_at_call 47;refine(HN.out _ (h1.alloc h1.size _)).mono ?_;rintro e w3 ⟨rfl,h5⟩))
    go_ret;exact⟨rfl,(h1.alloc h1.size _).trans (h5.mono (by simp;exact Nat.le_succ_of_le h1.size))⟩
   ·by_cases hz:b3.size=0
    ·rw[if_neg (by rintro(h|h);cases h;exact h.1 hz)]
     rw[Up hz]at hd;clear HS hz;go_enter func53,ntmps53
     go_wp2_with(first|(go_at_call 97;refine(h7 _).mono ?_;rintro e w1 ⟨rfl,he⟩;subst w1)|(go_at_call 98;refine(h6 _).mono ?_;rintro e w2 ⟨rfl,h1⟩)|(go_at_call 47;refine(HN.out _ (h1.alloc h1.size _)).mono ?_;rintro e w3 ⟨rfl,h5⟩;have h3:Hid (w3.heap[w2.heap.size]?=_):=(h5.block w2.heap.size (by simp)).trans (qn w2 [.string a1,.string a2,.string a3,.string b1,.string b2,.string b3] _);have k3:=qa h3.out (j:=3) rfl;have k4:=qa h3.out (j:=4) rfl;have k5:=qa h3.out (j:=5) rfl;have h2:Below w.heap.size w w3:=(h1.alloc h1.size _).trans (h5.mono (by simp;exact Nat.le_succ_of_le h1.size)))|(go_at_call 99;refine(hd _).mono ?_;rintro e w4 ⟨rfl,h8⟩))
     go_ret;exact⟨rfl,h2.trans (h8.mono h2.size)⟩
    ·rw[Uo hz]at hd
     have HF:Hid ((if true=false\/(b3.size≠0/\f2=false)then(5:Int)else 0)=if f2=false then 5 else 0):=by
      show _=_
      cases f2<;>simp[hz]
     rw[HF.out];clear hz HF;cases f2
     ·go_enter func53,ntmps53
      go_wp2_with(first|(go_at_call 97;refine(h7 _).mono ?_;rintro e w1 ⟨rfl,he⟩;subst w1)|(go_at_call 98;refine(h6 _).mono ?_;rintro e w2 ⟨rfl,h1⟩)|(go_at_call 47;refine(HN.out _ (h1.alloc h1.size _)).mono ?_;rintro e w3 ⟨rfl,h5⟩;clear HN;have h3:Hid (w3.heap[w2.heap.size]?=_):=(h5.block w2.heap.size (by simp)).trans (qn w2 [.string a1,.string a2,.string a3,.string b1,.string b2,.string b3] _);have k3:=qa h3.out (j:=3) rfl;have k4:=qa h3.out (j:=4) rfl;have k5:=qa h3.out (j:=5) rfl;have h2:Below w.heap.size w w3:=(h1.alloc h1.size _).trans (h5.mono (by simp;exact Nat.le_succ_of_le h1.size)))|(go_at_call 99;refine(hd _).mono ?_;rintro e w4 ⟨rfl,h8⟩;have hc:Hid (w4.heap[w2.heap.size]?=_):=(h8.block w2.heap.size (qc h3.out)).trans h3.out;have j3:=qa hc.out (j:=3) rfl;have j4:=qa hc.out (j:=4) rfl;have j5:=qa hc.out (j:=5) rfl;have h4:=h2.trans (h8.mono h2.size))|(go_at_call 47;refine(HS.out _ h4).mono ?_;rintro e w5 ⟨rfl,hf⟩))
      go_ret;exact⟨rfl,h4.trans (hf.mono h4.size)⟩
     ·go_enter func53,ntmps53
      go_wp2_with(first|(go_at_call 97;refine(h7 _).mono ?_;rintro e w1 ⟨rfl,he⟩;subst w1)|(go_at_call 98;refine(h6 _).mono ?_;rintro e w2 ⟨rfl,h1⟩)|(go_at_call 47;refine(HN.out _ (h1.alloc h1.size _)).mono ?_;rintro e w3 ⟨rfl,h5⟩;clear HN;have h3:Hid (w3.heap[w2.heap.size]?=_):=(h5.block w2.heap.size (by simp)).trans (qn w2 [.string a1,.string a2,.string a3,.string b1,.string b2,.string b3] _);have k3:=qa h3.out (j:=3) rfl;have k4:=qa h3.out (j:=4) rfl;have k5:=qa h3.out (j:=5) rfl;have h2:Below w.heap.size w w3:=(h1.alloc h1.size _).trans (h5.mono (by simp;exact Nat.le_succ_of_le h1.size)))|(go_at_call 99;refine(hd _).mono ?_;rintro e w4 ⟨rfl,h8⟩;have hc:Hid (w4.heap[w2.heap.size]?=_):=(h8.block w2.heap.size (qc h3.out)).trans h3.out;have j3:=qa hc.out (j:=3) rfl;have j4:=qa hc.out (j:=4) rfl;have j5:=qa hc.out (j:=5) rfl;have h4:=h2.trans (h8.mono h2.size))|(go_at_call 47;refine(HS.out _ h4).mono ?_;rintro e w5 ⟨rfl,hf⟩))
      go_ret;exact⟨rfl,h4.trans (hf.mono h4.size)⟩
