import Derived.Test.YtalmoiogbdahcaaGreatAWrdJ
import Derived.Test.YtalmoiogbdahcaaGreatALibC
open Go.Proofs.Tryz
namespace Go.Proofs.YtalmoiogbdahcaaGreat
set_option maxRecDepth 100000
set_option maxHeartbeats 8000000
open Go.RowKit
def eqB:BA:={data:= #[61]}
def y7(s:BA):Rd:=(rd0 s).head.must eqB
def xZ(s:BA):WayT×Rd:=x7 (qv 5) (y7 s)
def yl(s:BA):Bool:=decide (s.size<=200) && (xZ s).2.ended
def jg:List Value:=[.string {data:= #[]},.string {data:= #[]},.int .i64 0,.string {data:= #[]},.string {data:= #[]},.slice none 0 0]
def Oi(s:BA)(is:Int)(a b:BA)(x:Option Addr)(n c:Nat):Value:=.agg #[.string (qU (rd0 s)),.string (zh (rd0 s)),.int .i64 is,.string a,.string b,.slice x n c]
def aR(s:BA)(w:World)(e:Ending)(w':World):Prop:=
 Below w.heap.size w w'/\((yl s=false/\e=.returned (.tuple #[.agg jg.toArray,.bool false]))\/
  (yl s=true/\ ∃is a b x n c,e=.returned (.tuple #[Oi s is a b x n c,.bool true])/\WayAt w' (w.heap.size<= ·) (xZ s).1 (.agg #[.int .i64 is,.string a,.string b,.slice x n c])))
theorem Kt(q:Rd):q.head.opn=q.opn:=by
 unfold Rd.head;rw[ax,mU,i0]
variable{b:Nat}{w:World}
theorem G5{B:Nat}{w0:World}(h:Below B w0 w)(hb:B<=b)(c0 c1 c2 c3 c4 c5:Value):Below B w0 ((((((w.setCell ⟨b,0,none⟩ c0).setCell ⟨b,1,none⟩ c1).setCell ⟨b,2,none⟩ c2).setCell ⟨b,3,none⟩ c3).setCell ⟨b,4,none⟩ c4).setCell ⟨b,5,none⟩ c5):=
 (((((h.setCell hb _).setCell hb _).setCell hb _).setCell hb _).setCell hb _).setCell hb _
theorem G6{g:Nat}(hb: ¬g=b)(c0 c1 c2 c3 c4 c5:Value):((((((w.setCell ⟨b,0,none⟩ c0).setCell ⟨b,1,none⟩ c1).setCell ⟨b,2,none⟩ c2).setCell ⟨b,3,none⟩ c3).setCell ⟨b,4,none⟩ c4).setCell ⟨b,5,none⟩ c5).heap[g]?=w.heap[g]?:=by
 rw[Ot _ _ _ _ hb,Ot _ _ _ _ hb,Ot _ _ _ _ hb,Ot _ _ _ _ hb,Ot _ _ _ _ hb,Ot _ _ _ _ hb]
theorem nI(s:BA)(w:World)(hl:200<s.size):Calls prog 56 #[.string s] w (aR s w):=by
 have HO:Hid (yl s=false):=by show _=_;unfold yl;rw[Uo (by omega)];rfl
 have h0:decide ((s.size:Int)>200)=true:=by simp;omega
 go_enter func56,ntmps56;go_wp2;refine bodyPost_ret (v:=.tuple #[.agg jg.toArray,.bool false]) (by simp[results,results56,go_sem,jg]) rfl ⟨(Ou _ _).alloc (Uc _) _,Or.inl ⟨HO.out,rfl⟩⟩
theorem sj(s:BA)(w:World)(hl:s.size<=200):Calls prog 56 #[.string s] w (aR s w):=by
 have hN:decide ((s.size:Int)>200)=false:=by simp;omega
 have s1:=YS (rd0 s);have s2:=xE (rd0 s).head eqB;have S0:Hid ((rd0 s).rest.size<=maxLen):=by show s.size<=maxLen;unfold maxLen;omega
 have S2:Hid ((y7 s).rest.size<=200):=by show((rd0 s).head.must eqB).rest.size<=200;have:(rd0 s).rest.size=s.size:=rfl;omega
 have SO:Hid ((y7 s).opn=0):=by show((rd0 s).head.must eqB).opn=0;rw[mU,Kt];rfl
 have hs: ∀w1,Calls prog 102 #[.string s] w1 λe w'=>e=.returned (.string s)/\Below w1.heap.size w1 w':=λw1=>jU s w1 (by omega)
 have hq: ∀r w1,zg w1 r (rd0 s)->Calls prog 104 #[.pointer (some ⟨r,0,none⟩)] w1 λe w'=>e=.returned (.agg #[.string (qU (rd0 s)),.string (zh (rd0 s))])/\zg w' r (rd0 s).head/\w1.grownBy w' (some r):=λr w1 h=>Xm r (rd0 s) w1 h S0.out;have hu: ∀r w1,zg w1 r (rd0 s).head->Calls prog 105 #[.pointer (some ⟨r,0,none⟩),.string {data:= #[61]}] w1 λe w'=>e=.returned (.tuple #[])/\zg w' r (y7 s)/\w1.grownBy w' (some r):=λr w1 h=>iW r (rd0 s).head eqB w1 h;have ht: ∀r w1,zg w1 r (y7 s)->Calls prog 106 #[.pointer (some ⟨r,0,none⟩)] w1 (ay w1 r (xZ s)):=λr w1 h=>GG 5 r (y7 s) w1 h S2.out (by rw[SO.out];decide) (by rw[SO.out];rfl)
 have hi:=λr w h=>ao r (xZ s).2 w h;have HK:Hid (yl s=(xZ s).2.ended):=by show _=_;unfold yl;rw[Up hl,Bool.true_and]
 rw[←HK.out]at hi;clear s1 s2;have HP:Hid (∀e w',aR s w e w'↔(Below w.heap.size w w'/\((yl s=false/\e=.returned (.tuple #[.agg jg.toArray,.bool false]))\/(yl s=true/\ ∃is a b x n c,e=.returned (.tuple #[.agg #[.string (qU (rd0 s)),.string (zh (rd0 s)),.int .i64 is,.string a,.string b,.slice x n c],.bool true])/\WayAt w' (w.heap.size<= ·) (xZ s).1 (.agg #[.int .i64 is,.string a,.string b,.slice x n c]))))):=λe w'=>Iff.rfl;generalize aR s w=post at *;generalize qU (rd0 s)=hk at *;generalize zh (rd0 s)=hr at *;generalize xZ s=p at *;generalize yl s=ok at *;cases ok
 ·go_enter func56,ntmps56
  go_wp2_with(first|(go_at_call 102;refine(hs _).mono ?_;rintro e w1 ⟨rfl,h9⟩;have h1:Hid (w1.heap[w.heap.size]?=_):=(h9.block w.heap.size (by simp)).trans (qn w jg _))|(go_at_call 104;refine(hq _ _ (l8 w1 s)).mono ?_;rintro e w2 ⟨rfl,h4,h8⟩;have h2:Hid (w2.heap[w.heap.size]?=_):=xC h8 (qG h1.out _) (by have:=qc h1.out;omega))|(go_at_call 105;refine(hu _ _ (zD h4 _)).mono ?_;rintro e w3 ⟨rfl,hj,h5⟩;have h7:Hid (w3.heap[w.heap.size]?=_):=xC h5 (qG h2.out _) (by have:=qc h1.out;omega))|(go_at_call 106;refine(ht _ _ hj).mono ?_;rintro e w4 ⟨v,rfl,ha,hf,h6⟩;obtain⟨vi,va,vb,vx,vn,vc,rfl⟩:=ha.agg;have h0:Hid (w4.heap[w.heap.size]?=_):=xC h6 h7.out (by have:=qc h1.out;omega);have h3:Hid (w4.heap[w2.heap.size]?=_):=xC h6 (xC h5 (qn w2 [.string hk,.string hr] _) (by have:=qc h4;omega)) (by have:=qc h4;omega);have hK:=qa h3.out (j:=0) rfl;have hJ:=qa h3.out (j:=1) rfl;have hB:w2.heap.size<w4.heap.size:=qc h3.out;have hx: ¬w2.heap.size=w4.heap.size:=(by omega);have hA: ¬w2.heap.size=w.heap.size:=(by have:=qc h2.out;omega))|(go_at_call 91;refine(hi _ _ (zD hf _)).mono ?_;rintro e w5 ⟨rfl,hF⟩;subst w5;have hd:w.heap.size<w4.heap.size:=qc h0.out;have hC: ¬w.heap.size=w4.heap.size:=(by omega);have hm:=qa h0.out (j:=0) rfl;have hy:=qd h0.out 0;have hc:=qa h0.out (j:=1) rfl;have hG:=qd h0.out 1;have hp:=qa h0.out (j:=2) rfl;have hv:=qd h0.out 2;have ho:=qa h0.out (j:=3) rfl;have hI:=qd h0.out 3;have hn:=qa h0.out (j:=4) rfl;have hD:=qd h0.out 4;have he:=qa h0.out (j:=5) rfl;have hE:=qd h0.out 5))
  have hb:Below w.heap.size w w4:=yh (yh ((yh ((Below.trans ((Ou w.heap.size w).alloc (Uc _) _) (h9.mono (by simp))).alloc (by have:=qc h1.out;omega) _) h8 (by simp;have:=qc h1.out;omega) (by have:=qc h1.out;omega)).alloc (by have:=qc h2.out;omega) _) h5 (by simp;have:=qc h2.out;omega) (by have:=qc h1.out;omega)) h6 (by have:=qc h7.out;omega) (by have:=qc h1.out;omega)
  refine bodyPost_ret (v:=.tuple #[.agg jg.toArray,.bool false]) (by simp[results,results56,go_sem,jg,hm,hc,hp,ho,hn,he,hd]) rfl ((HP.out _ _).2 ⟨(G5 hb (Uc _) _ _ _ _ _ _).alloc (by simp;omega) _,Or.inl ⟨trivial,rfl⟩⟩)
 ·go_enter func56,ntmps56
  go_wp2_with(first|(go_at_call 102;refine(hs _).mono ?_;rintro e w1 ⟨rfl,h9⟩;have h1:Hid (w1.heap[w.heap.size]?=_):=(h9.block w.heap.size (by simp)).trans (qn w jg _))|(go_at_call 104;refine(hq _ _ (l8 w1 s)).mono ?_;rintro e w2 ⟨rfl,h4,h8⟩;have h2:Hid (w2.heap[w.heap.size]?=_):=xC h8 (qG h1.out _) (by have:=qc h1.out;omega))|(go_at_call 105;refine(hu _ _ (zD h4 _)).mono ?_;rintro e w3 ⟨rfl,hj,h5⟩;have h7:Hid (w3.heap[w.heap.size]?=_):=xC h5 (qG h2.out _) (by have:=qc h1.out;omega))|(go_at_call 106;refine(ht _ _ hj).mono ?_;rintro e w4 ⟨v,rfl,ha,hf,h6⟩;obtain⟨vi,va,vb,vx,vn,vc,rfl⟩:=ha.agg;have h0:Hid (w4.heap[w.heap.size]?=_):=xC h6 h7.out (by have:=qc h1.out;omega);have h3:Hid (w4.heap[w2.heap.size]?=_):=xC h6 (xC h5 (qn w2 [.string hk,.string hr] _) (by have:=qc h4;omega)) (by have:=qc h4;omega);have hK:=qa h3.out (j:=0) rfl;have hJ:=qa h3.out (j:=1) rfl;have hB:w2.heap.size<w4.heap.size:=qc h3.out;have hx: ¬w2.heap.size=w4.heap.size:=(by omega);have hA: ¬w2.heap.size=w.heap.size:=(by have:=qc h2.out;omega))|(go_at_call 91;refine(hi _ _ (zD hf _)).mono ?_;rintro e w5 ⟨rfl,hF⟩;subst w5;have hd:w.heap.size<w4.heap.size:=qc h0.out;have hC: ¬w.heap.size=w4.heap.size:=(by omega);have hm:=qa h0.out (j:=0) rfl;have hy:=qd h0.out 0;have hc:=qa h0.out (j:=1) rfl;have hG:=qd h0.out 1;have hp:=qa h0.out (j:=2) rfl;have hv:=qd h0.out 2;have ho:=qa h0.out (j:=3) rfl;have hI:=qd h0.out 3;have hn:=qa h0.out (j:=4) rfl;have hD:=qd h0.out 4;have he:=qa h0.out (j:=5) rfl;have hE:=qd h0.out 5))
  have hb:Below w.heap.size w w4:=yh (yh ((yh ((Below.trans ((Ou w.heap.size w).alloc (Uc _) _) (h9.mono (by simp))).alloc (by have:=qc h1.out;omega) _) h8 (by simp;have:=qc h1.out;omega) (by have:=qc h1.out;omega)).alloc (by have:=qc h2.out;omega) _) h5 (by simp;have:=qc h2.out;omega) (by have:=qc h1.out;omega)) h6 (by have:=qc h7.out;omega) (by have:=qc h1.out;omega)
  refine bodyPost_ret (v:=.tuple #[.agg #[.string hk,.string hr,.int .i64 vi,.string va,.string vb,.slice vx vn vc],.bool true]) (by simp[results,results56,go_sem,hm,hc,hp,ho,hn,he,hd]) rfl ((HP.out _ _).2 ⟨(G5 hb (Uc _) _ _ _ _ _ _).alloc (by simp;omega) _,Or.inr ⟨trivial,vi,va,vb,vx,vn,vc,rfl,?_⟩⟩)
  have hM:=qc h7.out;refine ha.move λg hg hz=>?_;have hL:w3.heap.size<=g:=hg;refine⟨by show w.heap.size<=g;omega,?_⟩
  rw[Oq _ _ _ (by simpa[World.setCell]using hz),G6 (by omega)]
theorem cO(s:BA)(w:World):Calls prog 56 #[.string s] w (aR s w):=by
 rcases Uh 200 s.size with h|h
 ·exact nI s w h
 ·exact sj s w h
mutual
def lvW:WayT->Nat
 | .mk is _ _ parts=>if zV is then 1 else lvL parts
def lvL:List WayT->Nat
 | []=>0
 |t::l=>lvW t+lvL l
end
mutual
def xH:WayT->List BA
 | .mk is a b parts=>if zV is then[a,b]else yp parts
def yp:List WayT->List BA
 | []=>[]
 |t::l=>xH t++yp l
end
theorem YY(ts:List (Nod×Nod))(x:Nod)(is:Int)(a b:BA):(vr ts x is a b).length<=ts.length+1:=by
 have h: ∀y,(qy ts y).length<=ts.length:=λy=>by
  unfold qy;rw[OM];exact List.length_filter_le _ _
 unfold vr;split
 ·have:=h x;omega
 ·split
  ·simp
  ·rw[OM]
   have h1:=List.length_filter_le (λy:Nod=>y.isTh) (qy ts (x.to a));have:=h (x.to a);omega
mutual
theorem vD(ts:List (Nod×Nod))(x:Nod):(t:WayT)->(qY ts x t).length<=lvW t * (ts.length+1)
 | .mk is a b parts=>by
  rw[qY,lvW];by_cases h:zV is=true
  ·rw[if_pos h,if_pos h,Nat.one_mul];exact YY ts x is a b
  ·rw[if_neg h,if_neg h];exact gW ts x parts
theorem gW(ts:List (Nod×Nod))(x:Nod):(l:List WayT)->(qO ts x l).length<=lvL l * (ts.length+1)
 | []=>by rw[qO];simp
 |t::l=>by
  rw[qO,lvL,OK,Nat.add_mul];have h1:=vD ts x t;have h2:=gW ts x l;omega
end
mutual
theorem tO:(t:WayT)->(xH t).length<=2 * lvW t
 | .mk is a b parts=>by
  rw[xH,lvW];by_cases h:zV is=true
  ·rw[if_pos h,if_pos h];simp
  ·rw[if_neg h,if_neg h];exact tP parts
theorem tP:(l:List WayT)->(yp l).length<=2 * lvL l
 | []=>by rw[yp];simp
 |t::l=>by
  rw[yp,lvL,OK];have h1:=tO t;have h2:=tP l;omega
end
theorem Xt(l:List WayT)(t:WayT):lvL (l++[t])=lvL l+lvW t:=by
 induction l with
 |nil=>simp[lvL]
 |cons a l ih=>rw[List.cons_append,lvL,lvL,ih];omega
theorem eI(l:List WayT)(t:WayT):yp (l++[t])=yp l++xH t:=by
 induction l with
 |nil=>simp[yp]
 |cons a l ih=>rw[List.cons_append,yp,yp,ih,Ov]
variable{is:Int}
theorem GH(h:zV is=false)(ts:List WayT):lvW (u6 is ts)<=lvL ts:=by
 unfold u6;split
 ·simp[lvL]
 ·rw[lvW,if_neg (by rw[h];decide)];exact Uc _
theorem YZ(h:zV is=false)(ts:List WayT):xH (u6 is ts)=yp ts:=by
 unfold u6;split
 ·simp[yp]
 ·rw[xH,if_neg (by rw[h];decide)]
theorem eJ{q:Rd}{c:UInt8}(h:qP q.rest {data:= #[c]}=true):(q.sees {data:= #[c]}).rest.size+1<=q.rest.size:=by
 unfold Rd.sees;rw[if_pos h];unfold qP at h;simp only[Bool.and_eq_true,decide_eq_true_eq]at h;have h1:(1:Nat)<=q.rest.size:=h.1;show(q.rest.extract 1 q.rest.size).size+1<=_
 simp;omega
variable{one:Rd->WayT×Rd}
theorem Ku(ho: ∀q,lvW (one q).1+(one q).2.rest.size<=q.rest.size+1){m:BA}(hm: ∀q:Rd,qP q.rest m=true->(q.sees m).rest.size+1<=q.rest.size):
  ∀n acc q,lvL (zM one m n acc q).1+(zM one m n acc q).2.rest.size<=lvL acc+q.rest.size:=by
 intro n
 induction n with
 |zero=>intro acc q;exact Uc _
 |succ n ih=>
  intro acc q;rw[zM];split
  ·rename_i h
   have h1:=ih (acc++[(one (q.sees m)).1]) (one (q.sees m)).2;rw[Xt]at h1;have h2:=ho (q.sees m);have h3:=hm q h;omega
  ·exact Uc _
theorem Kv(q p:Rd)(h:qP p.rest (jI q)=true):(p.sees (jI q)).rest.size+1<=p.rest.size:=by
 unfold jI at h ⊢;split
 ·rename_i e;rw[if_pos e]at h;exact eJ h
 ·rename_i e;rw[if_neg e]at h;exact eJ h
theorem tR(q:Rd):zV (dW q)=false:=by unfold dW;split<;>decide
theorem Y0(ho: ∀q,lvW (one q).1+(one q).2.rest.size<=q.rest.size+1)(q:Rd):lvW (x7 one q).1+(x7 one q).2.rest.size<=q.rest.size+1:=by
 have h1:=Ku ho (m:=jI (one q).2) (λp h=>Kv _ p h) (one q).2.rest.size [(one q).1] (one q).2;have h2:=ho q;have h3:=GH (tR (one q).2) (uE one q).1;have e:lvL [(one q).1]=lvW (one q).1:=by simp[lvL]
 rw[e]at h1;show lvW (u6 (dW (one q).2) (uE one q).1)+(uE one q).2.rest.size<=_
 unfold uE at h3 ⊢;omega
theorem eK(q:Rd):lvW (xW q).1+(xW q).2.rest.size<=q.rest.size+1:=by
 have h:=dX q;have:lvW (xW q).1=1:=by
  unfold xW;split
  ·rfl
  ·split<;>rfl
 omega
theorem G7: ∀d q,lvW (qv d q).1+(qv d q).2.rest.size<=q.rest.size+1:=by
 intro d
 induction d with
 |zero=>
  intro q;rw[qv];split
  ·show 1+0<=_;omega
  ·exact eK q
 |succ d ih=>
  intro q;rw[qv];split
  ·have h1:=Y0 ih q.opened
   have h2:=dY q;have h3:=xE (x7 (qv d) q.opened).2 clB;show lvW (x7 (qv d) q.opened).1+((x7 (qv d) q.opened).2.must clB).rest.size<=_
   omega
  ·exact eK q
theorem QY(s:BA)(h:s.size<=200):lvW (xZ s).1<=201:=by
 have h1:=Y0 (G7 5) (y7 s);have h2:(y7 s).rest.size<=s.size:=by
  unfold y7 Rd.head;refine Ue (xE _ _) (Ue (jS _) (Ue (xE _ _) (xV _)))
 unfold xZ;omega
theorem az(s:BA):(zk s).size<=s.size:=by
 unfold zk;split
 ·simp;omega
 ·exact Um _
theorem re(q:Rd): ∀r∈xH (xW q).1,r.size<=q.rest.size:=by
 intro r hr;unfold xW at hr;have hn:(qk).size=0:=rfl;split at hr
 ·simp[xH,zV]at hr;rw[hr];omega
 ·split at hr
  ·simp[xH,zV]at hr
   rcases hr with rfl|rfl
   ·exact az _
   ·exact Ue (az _) (Ue (yj _ _) (xV _))
  ·simp[xH,zV]at hr
   rcases hr with rfl|rfl
   ·omega
   ·exact az _
theorem Xu(hs: ∀q,(one q).2.rest.size<=q.rest.size)(ho: ∀q,∀r∈xH (one q).1,r.size<=q.rest.size)(m:BA)(N:Nat):
  ∀n acc q,q.rest.size<=N->(∀r∈yp acc,r.size<=N)-> ∀r∈yp (zM one m n acc q).1,r.size<=N:=by
 intro n
 induction n with
 |zero=>intro acc q _ h;exact h
 |succ n ih=>
  intro acc q hq h;rw[zM];split
  ·have hz:=yj q m
   refine ih _ _ (Ue (hs _) (by omega)) ?_
   intro r hr;rw[eI]at hr;rcases OS.1 hr with hr|hr
   ·exact h r hr
   ·exact Ue (ho _ r hr) (by omega)
  ·exact h
theorem eL(hs: ∀q,(one q).2.rest.size<=q.rest.size)(ho: ∀q,∀r∈xH (one q).1,r.size<=q.rest.size)(q:Rd): ∀r∈xH (x7 one q).1,r.size<=q.rest.size:=by
 intro r hr;have hr:r∈xH (u6 (dW (one q).2) (uE one q).1):=hr;rw[YZ (tR _)]at hr;refine Xu hs ho _ q.rest.size _ _ _ (hs q) ?_ r hr;intro r hr;simp[yp]at hr;exact ho q r hr
theorem Kw: ∀d q,∀r∈xH (qv d q).1,r.size<=q.rest.size:=by
 intro d
 induction d with
 |zero=>
  intro q;rw[qv];split
  ·intro r hr
   simp[xH,zV]at hr;rw[hr];exact Um _
  ·exact re q
 |succ d ih=>
  intro q;rw[qv];split
  ·intro r hr
   exact Ue (eL (ks d) ih q.opened r hr) (dY q)
  ·exact re q
theorem Y1(s:BA)(h:s.size<=200): ∀r∈xH (xZ s).1,r.size<=200:=by
 intro r hr;have h1:=eL (ks 5) (Kw 5) (y7 s) r hr;have h2:(y7 s).rest.size<=s.size:=by
  unfold y7 Rd.head;refine Ue (xE _ _) (Ue (jS _) (Ue (xE _ _) (xV _)))
 omega
