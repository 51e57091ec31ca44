import Derived.Test.YtalmoiogbdahcaaGreatAWrdG
import Derived.DeepKeys4
open Go.Proofs.Tryz
namespace Go.Proofs.YtalmoiogbdahcaaGreat
set_option maxRecDepth 100000
set_option maxHeartbeats 8000000
open Go.RowKit
structure KeyOk(P:Program)(kt:TypeId)(Gd:Value->Prop):Prop where
 check: ∀(w:World) (em:Bool) (v:Value),Gd v->(Instr.checkKey em 10000 kt v).run P w=.ok () w
 find: ∀(w:World) (x:Value),Gd x-> ∀es:List MapEntry,(∀e∈es,Gd e.key)->
  ((Instr.findKey kt x es).run P w=.ok none w/\ ∀e∈es,e.key≠x)\/ ∃j e,(Instr.findKey kt x es).run P w=.ok (some (j,e.val)) w/\es[j]?=some e/\e.key=x
 stays: ∀(w:World) (v:Value),Gd v->(Instr.keyThatStays v v).run P w=.ok v w
variable{P:Program}
theorem KeyOk.of_law{k:TypeId}(K:WideMaps.KeyLaw P k):KeyOk P k (λv=> ∃l,keyOf P k v=some l) where
 check:=λw em _ ⟨_,h⟩=>K.check w em h
 find:=λw _ ⟨_,h⟩ es he=>K.find w h es he
 stays:=λw _ ⟨_,h⟩=>K.stays w h
theorem KeyOk.sub{k:TypeId}{G G':Value->Prop}(K:KeyOk P k G)(h: ∀v,G' v->G v):KeyOk P k G' where
 check:=λw em v hv=>K.check w em v (h v hv)
 find:=λw x hx es he=>K.find w x (h x hx) es (λe hm=>h _ (he e hm))
 stays:=λw v hv=>K.stays w v (h v hv)
def yW(es:Array MapEntry):List (Value×Value):=es.toList.map λe=>(e.key,e.val)
def zt(w:World)(Gd:Value->Prop)(b:Nat)(m:List (Value×Value)):Prop:=
 ∃es clock,w.heap[b]?=some (.map es clock)/\yW es=m/\(∀p∈m,Gd p.1)/\(m.map (·.1)).Nodup
variable{Gd:Value->Prop}{b:Nat}{m:List (Value×Value)}{w:World}
theorem zt.move{w':World}(h:zt w Gd b m)(hb:w'.heap[b]?=w.heap[b]?):zt w' Gd b m:=by
 obtain⟨es,c,h1,h2⟩:=h;exact⟨es,c,hb.trans h1,h2⟩
theorem zt.lt(h:zt w Gd b m):b<w.heap.size:=by
 obtain⟨es,c,h1,-⟩:=h;exact(Array.getElem?_eq_some_iff.1 h1).1
theorem zt.new(w:World)(Gd:Value->Prop):zt (w.alloc (.map #[] 0)) Gd w.heap.size []:=
 ⟨#[],0,(MapKept.heap_alloc w _).1,rfl,(by simp),List.nodup_nil⟩
noncomputable def getM (m:List (Value×Value)) (k:Value):Option Value:=by
 classical exact(m.find? λp=>decide (p.1=k)).map (·.2)
theorem JM(k:Value):getM [] k=none:=rfl
variable{k:Value}
theorem vY(h: ∀p∈m,p.1≠k):getM m k=none:=by
 classical
 unfold getM;rw[Option.map_eq_none_iff,List.find?_eq_none];intro p hp;simpa using h p hp
theorem jp(h:getM m k=none): ∀p∈m,p.1≠k:=by
 classical
 unfold getM at h;rw[Option.map_eq_none_iff,List.find?_eq_none]at h;intro p hp;simpa using h p hp
variable{v:Value}
theorem jX(h:getM m k=some v):(k,v)∈m:=by
 classical
 unfold getM at h;obtain⟨p,h1,h2⟩:=Un.1 h;have hm:=List.mem_of_find?_eq_some h1;have hk:=List.find?_some h1;simp at hk;obtain⟨a,b⟩:=p;dsimp only at hk h2;subst hk;subst h2;exact hm
theorem ia(hn:(m.map (·.1)).Nodup)(h:(k,v)∈m):getM m k=some v:=by
 cases hg:getM m k with
 |none=>exact absurd rfl (jp hg _ h)
 |some u=>
  have hu:=jX hg;have:u=v:=by
   induction m with
   |nil=>cases h
   |cons p m ih=>
    rw[List.map_cons,List.nodup_cons]at hn;rcases OT.1 h with h1|h1<;>rcases OT.1 hu with h2|h2
    ·rw[←h1]at h2;injection h2
    ·exfalso;apply hn.1;rw[←h1];exact OY.2 ⟨_,h2,rfl⟩
    ·exfalso;apply hn.1;rw[←h2];exact OY.2 ⟨_,h1,rfl⟩
    ·have hk:p.1≠k:=λe=>hn.1 (by rw[e];exact OY.2 ⟨_,h1,rfl⟩)
     refine ih hn.2 h1 ?_ h2
     classical
     unfold getM at hg ⊢;rw[List.find?_cons_of_neg (by simpa using hk)]at hg
     exact hg
  rw[this]
theorem vq(h:getM m k=none)(q:Value×Value):getM (m++[q]) k=getM [q] k:=by
 classical
 have hn:=jp h;unfold getM;rw[List.find?_append];have:m.find? (λp=>decide (p.1=k))=none:=by rw[List.find?_eq_none];intro p hp;simpa using hn p hp
 rw[this];rfl
theorem cD(h:getM m k=some v)(q:List (Value×Value)):getM (m++q) k=some v:=by
 classical
 unfold getM at h ⊢;rw[List.find?_append];obtain⟨p,h1,h2⟩:=Un.1 h;rw[h1];simp[h2]
variable{et kt t:TypeId}
theorem uV(K:KeyOk P kt Gd)(ht:P.underlying t=some (.map kt et))(h:zt w Gd b m){z:Value}(hk:Gd k)(hz:(zeroValue et).run P w=.ok z w):
  (Instr.lookup t (.map (some b)) k true).run P w=.ok (.tuple #[(getM m k).getD z,.bool (getM m k).isSome]) w/\(Instr.lookup t (.map (some b)) k false).run P w=.ok ((getM m k).getD z) w:=by
 obtain⟨es,clock,h1,h2,h3,h4⟩:=h;have h5: ∀e∈es.toList,Gd e.key:=λe he=>h3 (e.key,e.val) (by rw[←h2];exact OY.2 ⟨e,he,rfl⟩)
 rcases K.find w k hk es.toList h5 with⟨f1,f2⟩|⟨j,e,f1,f2,f3⟩
 ·have hg:getM m k=none:=vY (λp hp=>by
   rw[←h2]at hp;obtain⟨e,he,rfl⟩:=OY.1 hp;exact f2 e he)
  rw[hg]
  constructor<;>simp[Instr.lookup,run_underlying ht,MapKept.run_getObj_map h1,K.check w _ k hk,f1,hz,Result.andThen]
 ·have h0:(k,e.val)∈m:=by
   rw[←h2];exact OY.2 ⟨e,OZ f2,by rw[f3]⟩
  have hg:=ia h4 h0;rw[hg]
  constructor<;>simp[Instr.lookup,run_underlying ht,MapKept.run_getObj_map h1,K.check w _ k hk,f1,Result.andThen]
theorem ib{o o':Obj}(hb:w.heap[b]?=some o):w.grownBy {w with heap:=w.heap.setIfInBounds b o'} (some b):=
 ⟨rfl,rfl,rfl,by simp,λk _ hne=>(MapKept.heap_set hb).2 k (λe=>hne (by rw[e]))⟩
theorem dN(K:KeyOk P kt Gd)(ht:P.underlying t=some (.map kt et))(h:zt w Gd b m)(hk:Gd k)(hn:getM m k=none)(v:Value):
  ∃w',(Instr.mapUpdate t (.map (some b)) k v).run P w=.ok () w'/\zt w' Gd b (m++[(k,v)])/\w.grownBy w' (some b)/\w'.heap.size=w.heap.size:=by
 obtain⟨es,clock,h1,h2,h3,h4⟩:=h;have h5: ∀e∈es.toList,Gd e.key:=λe he=>h3 (e.key,e.val) (by rw[←h2];exact OY.2 ⟨e,he,rfl⟩)
 have h0:=jp hn;rcases K.find w k hk es.toList h5 with⟨f1,f2⟩|⟨j,e,f1,f2,f3⟩
 ·refine⟨{w with heap:=w.heap.setIfInBounds b (.map (es.push {key:=k,val:=v,born:=clock}) (clock+1))},?_,⟨_,_,(MapKept.heap_set h1).1,?_,?_,?_⟩,ib h1,by simp⟩
  ·simp[Instr.mapUpdate,run_underlying ht,MapKept.run_getObj_map h1,K.check w _ k hk,f1,MapKept.run_setObj_map _ h1,Result.andThen]
  ·rw[←h2];simp[yW]
  ·intro p hp
   rcases OS.1 hp with hp|hp
   ·exact h3 p hp
   ·simp at hp;rw[hp];exact hk
  ·rw[OR,List.nodup_append]
   refine⟨h4,by simp,?_⟩
   intro a ha c hc;simp at hc;subst hc;obtain⟨p,hp,rfl⟩:=OY.1 ha;exact h0 p hp
 ·exfalso
  refine h0 (e.key,e.val) ?_ f3;rw[←h2];exact OY.2 ⟨e,OZ f2,rfl⟩
theorem mi(K:KeyOk P kt Gd)(ht:P.underlying t=some (.map kt et))(h:zt w Gd b m){u:Value}(hk:Gd k)(hn:getM m k=some u)(v:Value):
  ∃w' m',(Instr.mapUpdate t (.map (some b)) k v).run P w=.ok () w'/\zt w' Gd b m'/\(∀x,x≠k->getM m' x=getM m x)/\getM m' k=some v/\w.grownBy w' (some b)/\w'.heap.size=w.heap.size:=by
 obtain⟨es,clock,h1,h2,h3,h4⟩:=h;have hd: ∀e∈es.toList,Gd e.key:=λe he=>h3 (e.key,e.val) (by rw[←h2];exact OY.2 ⟨e,he,rfl⟩)
 rcases K.find w k hk es.toList hd with⟨f1,f2⟩|⟨j,e,f1,f2,f3⟩
 ·exfalso
  have hm:=jX hn;rw[←h2]at hm;obtain⟨e,he,hc⟩:=OY.1 hm;injection hc with ha hb;exact f2 e he ha
 ·have h6:es[j]?=some e:=by simpa using f2
  have hj:(es.modify j λe=>{e with key:=k,val:=v}).toList.map (·.key)=es.toList.map (·.key):=by
   refine List.ext_getElem? λi=>?_;simp only[OF,Array.getElem?_toList,Array.getElem?_modify];by_cases h5:j=i
   ·subst h5;simp[h6,f3]
   ·simp[h5]
  have h0:(yW (es.modify j λe=>{e with key:=k,val:=v})).map (·.1)=m.map (·.1):=by
   rw[←h2];unfold yW;rw[List.map_map,List.map_map];exact hj
  have h7: ∀i,(yW (es.modify j λe=>{e with key:=k,val:=v}))[i]?=if i=j then some (k,v)else m[i]?:=by
   intro i;rw[←h2];unfold yW;simp only[OF,Array.getElem?_toList,Array.getElem?_modify];by_cases h5:j=i
   ·subst h5;simp[h6]
   ·rw[if_neg h5,if_neg (λe=>h5 e.symm)]
  have h8:((yW (es.modify j λe=>{e with key:=k,val:=v})).map (·.1)).Nodup:=by rw[h0];exact h4
  refine⟨{w with heap:=w.heap.setIfInBounds b (.map (es.modify j λe=>{e with key:=k,val:=v}) clock)},yW (es.modify j λe=>{e with key:=k,val:=v}),?_,⟨_,_,(MapKept.heap_set h1).1,rfl,?_,h8⟩,?_,?_,ib h1,by simp⟩
  ·have h9:=K.stays w k hk
   simp[Instr.mapUpdate,run_underlying ht,MapKept.run_getObj_map h1,K.check w _ k hk,f1,h6,f3,h9,MapKept.run_setObj_map _ h1,Result.andThen]
  ·intro p hp
   have:p.1∈m.map (·.1):=by rw[←h0];exact OY.2 ⟨p,hp,rfl⟩
   obtain⟨p',hf,e'⟩:=OY.1 this;rw[←e'];exact h3 p' hf
  ·intro x hx
   have key: ∀u,(x,u)∈yW (es.modify j λe=>{e with key:=k,val:=v})↔(x,u)∈m:=by
    intro u;rw[OX,OX]
    constructor
    ·rintro⟨i,hi⟩
     rw[h7]at hi;split at hi
     ·injection hi with hi;injection hi with hi _;exact absurd hi.symm hx
     ·exact⟨i,hi⟩
    ·rintro⟨i,hi⟩
     refine⟨i,?_⟩;rw[h7,if_neg]
     ·exact hi
     ·rintro rfl
      have:m[i]?=some (e.key,e.val):=by rw[←h2];simp[yW,h6]
      rw[this]at hi;injection hi with hi;injection hi with hi _;exact hx (hi▸f3)
   cases hg:getM m x with
   |none=>
    refine vY λp hp e'=>?_;obtain⟨a,c⟩:=p;dsimp only at e';subst e';exact jp hg _ ((key c).1 hp) rfl
   |some y=>exact ia h8 ((key y).2 (jX hg))
  ·refine ia h8 ?_
   rw[OX];exact⟨j,by rw[h7,if_pos rfl]⟩
theorem Tryz.laidOutT:laidOutB prog=true:=by kernel_rfl
theorem Tryz.headRow:(103:TypeId)<prog.types.size:=of_decide_eq_true (by kernel_rfl)
theorem Tryz.headAt:prog.keyTypeAt 2 103=true:=by kernel_rfl
theorem Tryz.headLaw:WideMaps.KeyLaw prog 103:=deep_law_laid Tryz.laidOutT (m:=2) (by decide) Tryz.headRow Tryz.headAt (by rw[underlying103])
def zl(k r:BA):Value:=.agg #[.string k,.string r]
theorem Tryz.headKey:prog.keyType 103=true:=by kernel_rfl
theorem Tryz.headCells:prog.cellsOf 103=2:=by kernel_rfl
theorem Tryz.strCells:prog.cellsOf 9=1:=by kernel_rfl
theorem Tryz.typesN: ∃n,prog.types.size+1=n+2:=⟨prog.types.size-1,by have h:(103:Nat)<prog.types.size:=Tryz.headRow;omega⟩
theorem JN(k r:BA)(hk:k.size<=maxLen)(hr:r.size<=maxLen): ∃l,keyOf prog 103 (zl k r)=some l:=by
 obtain⟨n,hn⟩:=Tryz.typesN;refine⟨.string (keyBytes [.string k.data.toList,.string r.data.toList]),?_⟩;unfold keyOf zl;rw[hn];simp[underlying103,Tryz.headKey,Value.formed,Tryz.headCells,Program.keyLits,Value.cells,Tryz.strCells,underlying9,hk,hr]
def yX(v:Value):Prop:= ∃k r:BA,v=zl k r/\k.size<=maxLen/\r.size<=maxLen
theorem pp:KeyOk prog 103 yX:=
 (KeyOk.of_law Tryz.headLaw).sub λv ⟨k,r,e,h1,h2⟩=>by rw[e];exact JN k r h1 h2
theorem de{a b c d:BA}(h:zl a b=zl c d):a=c/\b=d:=by
 unfold zl at h;simp at h;exact h
