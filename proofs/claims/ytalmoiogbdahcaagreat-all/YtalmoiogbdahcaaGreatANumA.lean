import Derived.Test.YtalmoiogbdahcaaGreatAMapA
import Derived.Test.YtalmoiogbdahcaaGreatARefI
open Go.Proofs.Tryz
namespace Go.Proofs.YtalmoiogbdahcaaGreat
set_option maxRecDepth 100000
set_option maxHeartbeats 8000000
open Go.RowKit
structure Frm(X:Nat->Prop)(w w':World):Prop where
 os:w'.os=w.os
 tape:w'.tape=w.tape
 output:w'.output=w.output
 size:w.heap.size<=w'.heap.size
 block: ∀k,k<w.heap.size-> ¬X k->w'.heap[k]?=w.heap[k]?
theorem Frm.refl(X:Nat->Prop)(w:World):Frm X w w:=⟨rfl,rfl,rfl,Uc _,λ_ _ _=>rfl⟩
variable{X Y:Nat->Prop}{a:World}
theorem Frm.trans{b c:World}(h:Frm X a b)(k:Frm Y b c)(hy: ∀j,j<a.heap.size->Y j->X j):Frm X a c:=
 ⟨k.os.trans h.os,k.tape.trans h.tape,k.output.trans h.output,Ue h.size k.size,λj hj hx=>(k.block j (Ug hj h.size) (λe=>hx (hy j hj e))).trans (h.block j hj hx)⟩
variable{w w':World}
theorem Frm.mono(h:Frm X w w')(hy: ∀j,j<w.heap.size->X j->Y j):Frm Y w w':=
 ⟨h.os,h.tape,h.output,h.size,λj hj hx=>h.block j hj λe=>hx (hy j hj e)⟩
theorem Frm.of_below(h:Below w.heap.size w w'):Frm X w w':=⟨h.os,h.tape,h.output,h.size,λk hk _=>h.block k hk⟩
theorem Frm.of_grown{row:Option Nat}(h:w.grownBy w' row)(hx: ∀k,row=some k->X k):Frm X w w':=
 ⟨h.os,h.tape,h.output,h.size,λk hk hn=>h.block k hk λe=>hn (hx k e.symm)⟩
theorem Frm.below{B:Nat}(hb:Below B a w)(h:Frm X w w')(hB:B<=w.heap.size)(hx: ∀k,k<w.heap.size->X k->B<=k):Below B a w':=
 hb.trans ⟨h.os,h.tape,h.output,h.size,λk hk=>h.block k (Ug hk hB) λe=>by have:=hx k (Ug hk hB) e;omega⟩
section
variable {α:Type} [DecidableEq α]
def zz(vs:List α)(v:α):List α:=if v∈vs then vs else vs++[v]
theorem yJ{vs:List α}{v a:α}:a∈zz vs v↔a∈vs\/a=v:=by
 unfold zz;split
 ·rename_i h
  exact⟨Or.inl,λe=>e.elim id λe=>e▸h⟩
 ·simp
theorem kO{vs:List α}(h:vs.Nodup)(v:α):(zz vs v).Nodup:=by
 unfold zz;split
 ·exact h
 ·rename_i hv
  rw[List.nodup_append];refine⟨h,by simp,λa ha b hb e=>?_⟩
  simp at hb;subst hb;subst e;exact hv ha
theorem vK(vs:List α)(v:α):vs<+:zz vs v:=by
 unfold zz;split
 ·exact List.prefix_refl _
 ·exact List.prefix_append _ _
theorem JS{vs:List α}{v:α}(h:v∉vs):(zz vs v).idxOf v=vs.length:=by
 unfold zz;rw[if_neg h,List.idxOf_append,if_neg h,List.idxOf_cons_self];omega
theorem cF(vs:List α)(v:α):(zz vs v).length<=vs.length+1:=by
 unfold zz;split
 ·omega
 ·simp
theorem JT{a v:α}{l:List α}(h: ¬a=v):(a::l).idxOf v=l.idxOf v+1:=by
 rw[List.idxOf_cons];have:(a==v)=false:=by simpa using h
 rw[this];rfl
def vO(enc:α->Value):Nat->List α->List (Value×Value)
 |_,[]=>[]
 |n,a::l=>(enc a,.int .i64 n)::vO enc (n+1) l
def cG(enc:α->Value)(vs:List α):List (Value×Value):=vO enc 0 vs
omit [DecidableEq α] in
theorem wS(enc:α->Value): ∀(vs:List α) (n:Nat) (v:α),vO enc n (vs++[v])=vO enc n vs++[(enc v,.int .i64 (n+vs.length:Nat))]:=by
 intro vs
 induction vs with
 |nil=>intro n v;simp[vO]
 |cons a l ih=>intro n v;rw[List.cons_append,vO,ih,vO,List.cons_append,OL,Nat.add_right_comm,O9]
theorem JU(enc:α->Value)(v:α): ∀(vs:List α) (n:Nat),(∀a∈vs,enc a=enc v->a=v)->getM (vO enc n vs) (enc v)=if v∈vs then some (.int .i64 (n+vs.idxOf v:Nat))else none:=by
 intro vs
 induction vs with
 |nil=>intro n _;rw[vO,JM,if_neg (by simp)]
 |cons a l ih=>
  intro n h;rw[vO]
  classical
  by_cases e:a=v
  ·subst e
   rw[if_pos (by simp),List.idxOf_cons_self]
   unfold getM;simp
  ·have h0:enc a≠enc v:=λe'=>e (h a (by simp) e')
   have:=ih (n+1) (λb hb=>h b (by simp[hb]))
   have hg:getM ((enc a,Value.int .i64 n)::vO enc (n+1) l) (enc v)=getM (vO enc (n+1) l) (enc v):=by
    unfold getM;rw[List.find?_cons_of_neg (by simpa using h0)]
   rw[hg,this];have e2: ¬v=a:=λe'=>e e'.symm;by_cases hv:v∈l
   ·rw[if_pos hv,if_pos (by simp[hv]),JT e,Nat.add_right_comm,O9]
   ·rw[if_neg hv,if_neg (by simp[hv,e2])]
theorem gF{enc:α->Value}{vs:List α}{v:α}(h: ∀a∈vs,enc a=enc v->a=v):getM (cG enc vs) (enc v)=if v∈vs then some (.int .i64 (vs.idxOf v:Nat))else none:=by
 have:=JU enc v vs 0 h;rw[Ul]at this;exact this
end
structure NumAt{α:Type}(enc:α->Value)(cl:α->List Value)(Gd:Value->Prop)(tN tE:TypeId)(size:Nat)(w:World)(lo nb mb:Nat)(sv:Value)(vs:List α):Prop where
 blk:w.heap[nb]?=some (.cells [.map (some mb),sv].toArray tN (0,0))
 map:zt w Gd mb (cG enc vs)
 row:w.ownsRow lo tE size sv vs.length (vs.flatMap cl)
 nd:vs.Nodup
 lob:lo<=nb
 lom:lo<=mb
def ur(nb mb:Nat)(sv:Value)(k:Nat):Prop:=k=nb\/k=mb\/sv.ownBlock=some k
variable{Gd:Value->Prop}{lo mb nb size:Nat}{sv:Value}{tE tN:TypeId}{α:Type}
theorem NumAt.keep{enc:α->Value}{cl:α->List Value}{vs:List α}(h:NumAt enc cl Gd tN tE size w lo nb mb sv vs)(hf:Frm X w w')(hx: ∀k,ur nb mb sv k-> ¬X k):NumAt enc cl Gd tN tE size w' lo nb mb sv vs:=
 ⟨(hf.block nb (qc h.blk) (hx _ (Or.inl rfl))).trans h.blk,h.map.move (hf.block mb h.map.lt (hx _ (Or.inr (Or.inl rfl)))),qF h.row λg hg=>hf.block g (qf h.row g hg).1 (hx _ (Or.inr (Or.inr hg))),h.nd,h.lob,h.lom⟩
variable{k:Nat}
theorem NumAt.lt{enc:α->Value}{cl:α->List Value}{vs:List α}(h:NumAt enc cl Gd tN tE size w lo nb mb sv vs)(hk:ur nb mb sv k):k<w.heap.size/\lo<=k:=by
 rcases hk with rfl|rfl|hk
 ·exact⟨qc h.blk,h.lob⟩
 ·exact⟨h.map.lt,h.lom⟩
 ·exact⟨(qf h.row k hk).1,(qf h.row k hk).2.1⟩
theorem NumAt.kind{enc:α->Value}{cl:α->List Value}{vs:List α}(h:NumAt enc cl Gd tN tE size w lo nb mb sv vs)(hk:ur nb mb sv k){cur:Array Value}{t:TypeId}(hc:w.heap[k]?=some (.cells cur t (0,0))):t=tN\/t=tE:=by
 rcases hk with rfl|rfl|hk
 ·rw[h.blk]at hc;injection hc with hc;injection hc with _ hc;exact Or.inl hc.symm
 ·obtain⟨es,c,h1,-⟩:=h.map;rw[h1]at hc;injection hc with hc;cases hc
 ·obtain⟨-,-,cur',h1⟩:=qf h.row k hk;rw[h1]at hc;injection hc with hc;injection hc with _ hc;exact Or.inr hc.symm
theorem NumAt.kindM{enc:α->Value}{cl:α->List Value}{vs:List α}(h:NumAt enc cl Gd tN tE size w lo nb mb sv vs)(hk:ur nb mb sv k){Gd':Value->Prop}{m:List (Value×Value)}(hc:zt w Gd' k m):k=mb:=by
 obtain⟨es,c,h1,-⟩:=hc;rcases hk with rfl|rfl|hk
 ·rw[h.blk]at h1;injection h1 with h1;cases h1
 ·rfl
 ·obtain⟨-,-,cur',h2⟩:=qf h.row k hk;rw[h2]at h1;injection h1 with h1;cases h1
theorem pr{tS:TypeId}{z:Value}{bytes:Nat}(hu:prog.underlying tS=some (.slice tE))(hi:(prog.info? tE).map (λi=>(i.zero,i.size,i.bytes))=some (some z,size,bytes))(hz:z.cells.size=size)(hs:0<size)(h8:bytes<=100)
  (w:World) (base:Nat) (v:Value) (n:Nat) (xs:List Value) (cs:List Value) (hc:cs.length=size) (h1: ∀u∈cs,u.oneCell'=true) (h4:w.ownsRow base tE size v n xs) (hb:base<=w.heap.size) (hl:n<=100000000):
  ∃v' w',(Builtin.append_ #[tS,tS] tS #[v,.slice (some ⟨w.heap.size,0,none⟩) 1 1]).run prog (w.alloc (.cells cs.toArray tE))=.ok v' w'/\
   w'.ownsRow base tE size v' (n+1) (xs++cs)/\w.grownBy w' v.ownBlock/\(∀k,v'.ownBlock=some k->v.ownBlock=some k\/w.heap.size<=k):=by
 obtain⟨i,hi,h6⟩:=Un.1 hi;simp only[Prod.mk.injEq]at h6;obtain⟨e1,e2,e3⟩:=h6;have h0: ∀(j:Nat) (u:Value),cs[j]?=some u->(w.alloc (.cells cs.toArray tE)).cell? ((⟨w.heap.size,0,none⟩:Addr).add j)=some u:=by
  intro j u hj;have e:(⟨w.heap.size,0,none⟩:Addr).add j=⟨w.heap.size,j,none⟩:=by
   unfold Addr.add;split
   ·rename_i h;rw[h]
   ·simp
  rw[e];exact qa (cs:=cs) (t:=tE) (fz:=(0,0)) (by show(w.heap.push _)[w.heap.size]?=_;rw[Array.getElem?_push_size]) hj
 have h7:(n+1) * bytes<=140737488355328:=Ue (Nat.mul_le_mul (show n+1<=100000001 by omega) h8) (by decide)
 obtain⟨v',w',hr,h2,h3,-,h5⟩:=run_append_own_at (P:=prog) (w.alloc (.cells cs.toArray tE)) base tS tS tE i z size bytes hu hi e1 e2 e3 hz hs v n xs (h4.alloc _) ⟨w.heap.size,0,none⟩ 1 1 cs (by rw[hc,Nat.one_mul]) h0 h1 (by unfold maxLen;omega) h7 (by simp;omega)
 refine⟨v',w',hr,h2,uW h3,λk hk=>?_⟩;rcases h5 with h5|h5
 ·exact Or.inl (h5▸hk)
 ·rw[h5]at hk;injection hk with hk;right;rw[←hk];simp
