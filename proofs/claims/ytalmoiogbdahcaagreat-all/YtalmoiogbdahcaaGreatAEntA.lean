import Derived.Test.YtalmoiogbdahcaaGreatAMapA
import Derived.WideKeyEntry
open Go.Proofs.Tryz
namespace Go.Proofs.YtalmoiogbdahcaaGreat
set_option maxRecDepth 100000
set_option maxHeartbeats 8000000
open Go.RowKit Go.WideElems Go.ChangeMaps
def yM(w:World)(Gd:Value->Prop)(b:Nat)(m:List (Value×Value)):Prop:=
 ∃es clock,w.heap[b]?=some (.map es clock)/\yW es=m/\(∀p∈m,Gd p.1)/\(m.map (·.1)).Nodup/\(∀e∈es.toList,e.born<clock)/\(es.toList.map (·.born)).Nodup
variable{Gd:Value->Prop}{b:Nat}{m:List (Value×Value)}{w:World}
theorem yM.map(h:yM w Gd b m):zt w Gd b m:=by
 obtain⟨es,c,h1,h2,h3,h4,-⟩:=h;exact⟨es,c,h1,h2,h3,h4⟩
theorem yM.move{w':World}(h:yM w Gd b m)(hb:w'.heap[b]?=w.heap[b]?):yM w' Gd b m:=by
 obtain⟨es,c,h1,h2⟩:=h;exact⟨es,c,hb.trans h1,h2⟩
theorem yM.lt(h:yM w Gd b m):b<w.heap.size:=h.map.lt
theorem yM.new(w:World)(Gd:Value->Prop):yM (w.alloc (.map #[] 0)) Gd w.heap.size []:=
 ⟨#[],0,(MapKept.heap_alloc w _).1,rfl,(by simp),List.nodup_nil,(by simp),(by simp)⟩
theorem Qt{P:Program}{t kt et:TypeId}(K:KeyOk P kt Gd)(ht:P.underlying t=some (.map kt et)){z:Value}(hz: ∀u:World,(zeroValue et).run P u=.ok z u)(h:yM w Gd b m){k:Value}(hk:Gd k):
  ∃(st:Nat) (w1:World) (o1:Obj),(Instr.mapEntry t (.map (some b)) k).run P w=.ok (.tuple #[(getM m k).getD z,goInt st]) w1/\w.grownBy w1 (some b)/\w1.heap.size=w.heap.size/\w1.heap[b]?=some o1/\
   ∀(w2:World) (val:Value),w2.heap[b]?=some o1-> ∃w3 m',(Instr.entryStore t (.map (some b)) (goInt st) val).run P w2=.ok () w3/\yM w3 Gd b m'/\getM m' k=some val/\(∀x,x≠k->getM m' x=getM m x)/\(∀p∈m',p.1=k\/p.1∈m.map (·.1))/\w2.grownBy w3 (some b)/\w3.heap.size=w2.heap.size:=by
 have hM:=h.map;obtain⟨es,clock,h1,h2,h3,h4,s1,s2⟩:=h;have hi: ∀e∈es.toList,Gd e.key:=λe he=>h3 (e.key,e.val) (by rw[←h2];exact OY.2 ⟨e,he,rfl⟩)
 rcases K.find w k hk es.toList hi with⟨f1,f2⟩|⟨j,e0,f1,f2,f3⟩
 ·have hg:getM m k=none:=vY (λp hp=>by
   rw[←h2]at hp;obtain⟨e,he,rfl⟩:=OY.1 hp;exact f2 e he)
  rw[hg];refine⟨clock,{w with heap:=w.heap.setIfInBounds b (.map (es.push ⟨k,z,clock⟩) (clock+1))},_,?_,ib h1,by simp,(MapKept.heap_set h1).1,λw2 val h0=>?_⟩
  ·simp[Instr.mapEntry,run_underlying ht,MapKept.run_getObj_map h1,K.check w false k hk,f1,hz,MapKept.run_setObj_map _ h1,Result.andThen]
  ·have hf:((es.push ⟨k,z,clock⟩).toList.map (·.born)).Nodup:=by
    simp only[Array.toList_push,OR,List.map_cons,List.map_nil];refine List.nodup_append.2 ⟨s2,by simp,λa ha c hc e1=>?_⟩
    simp only[O3]at hc;obtain⟨x,hx,rfl⟩:=OY.1 ha;have:=s1 x hx;omega
   have h5:(es.push ⟨k,z,clock⟩).findIdx? (λe=>((e.born:Nat):Int)==((clock:Nat):Int))=some es.size:=by
    rw[findIdx_arr];exact findIdx_born (l:=(es.push ⟨k,z,clock⟩).toList) (j:=es.size) (e0:=⟨k,z,clock⟩) hf (by simp)
   have h6:(es.push ⟨k,z,clock⟩).modify es.size (λe=>{e with val:=val})=es.push ⟨k,val,clock⟩:=by
    apply Array.ext';rw[Array.toList_modify,Array.toList_push,Array.toList_push,←Array.length_toList,modify_last]
   have hp:yW (es.push ⟨k,val,clock⟩)=m++[(k,val)]:=by rw[←h2];simp[yW]
   refine⟨{w2 with heap:=w2.heap.setIfInBounds b (.map (es.push ⟨k,val,clock⟩) (clock+1))},m++[(k,val)],?_,⟨_,_,(MapKept.heap_set h0).1,hp,?_,?_,?_,?_⟩,?_,?_,?_,ib h0,by simp⟩
   ·simp[Instr.entryStore,MapKept.run_getObj_map h0,asInt,asIntOf,goInt,h5,h6,MapKept.run_setObj_map _ h0,Result.andThen]
   ·intro p hp
    rcases OS.1 hp with hp|hp
    ·exact h3 p hp
    ·simp at hp;rw[hp];exact hk
   ·rw[OR,List.nodup_append]
    refine⟨h4,by simp,?_⟩
    intro a ha c hc;simp at hc;subst hc;obtain⟨p,hp,rfl⟩:=OY.1 ha;exact jp hg p hp
   ·intro e he
    rw[Array.toList_push]at he;rcases OS.1 he with he|he
    ·exact Nat.lt_succ_of_lt (s1 e he)
    ·simp at he;rw[he];exact Ui _
   ·simp only[Array.toList_push,OR,List.map_cons,List.map_nil]at hf ⊢
    exact hf
   ·rw[vq hg];classical unfold getM;simp
   ·intro x hx
    cases hgx:getM m x with
    |none=>rw[vq hgx];classical unfold getM;simp[Ne.symm hx]
    |some y=>exact cD hgx _
   ·intro p hp
    rcases OS.1 hp with hp|hp
    ·exact Or.inr (OY.2 ⟨p,hp,rfl⟩)
    ·simp at hp;rw[hp];exact Or.inl rfl
 ·have hj:es[j]?=some e0:=by simpa using f2
  have h9:(k,e0.val)∈m:=by
   rw[←h2];exact OY.2 ⟨e0,OZ f2,by rw[f3]⟩
  have hg:=ia h4 h9;rw[hg];have h8:es.modify j (λe=>{e with key:=k})=es:=by
   apply Array.ext';rw[Array.toList_modify,modify_eq_set _ _ _ _ f2];have:({e0 with key:=k}:MapEntry)=e0:=by rw[←f3]
   rw[this];exact set_self _ _ _ f2
  refine⟨e0.born,{w with heap:=w.heap.setIfInBounds b (.map es clock)},_,?_,ib h1,by simp,(MapKept.heap_set h1).1,λw2 val h0=>?_⟩
  ·simp[Instr.mapEntry,run_underlying ht,MapKept.run_getObj_map h1,K.check w false k hk,f1,hj,f3,K.stays w k hk,h8,MapKept.run_setObj_map _ h1,Result.andThen]
  ·have h5:es.findIdx? (λe=>((e.born:Nat):Int)==((e0.born:Nat):Int))=some j:=by
    rw[findIdx_arr];exact findIdx_born s2 f2
   have h6:es.modify j (λe=>{e with val:=val})=es.modify j (λe'=>{e' with key:=k,val:=val}):=by
    apply Array.ext';rw[Array.toList_modify,Array.toList_modify,modify_eq_set _ _ _ _ f2,modify_eq_set _ _ _ _ f2,←f3]
   have hd:(Instr.mapUpdate t (.map (some b)) k val).run P w=.ok () {w with heap:=w.heap.setIfInBounds b (.map (es.modify j (λe'=>{e' with key:=k,val:=val})) clock)}:=by
    simp[Instr.mapUpdate,run_underlying ht,MapKept.run_getObj_map h1,K.check w false k hk,f1,hj,f3,K.stays w k hk,MapKept.run_setObj_map _ h1,Result.andThen]
   obtain⟨w',m',r1,r2,r3,r4,-,-⟩:=mi K ht hM hk hg val;rw[hd]at r1;injection r1 with _ r1;subst r1;obtain⟨es2,c2,q1,q2,q3,q4⟩:=r2;rw[(MapKept.heap_set h1).1]at q1;injection q1 with q1;injection q1 with q5 q6;subst q5;subst q6;have hb:(es.modify j (λe'=>{e' with key:=k,val:=val})).toList.map (·.born)=es.toList.map (·.born):=by
    rw[Array.toList_modify,modify_eq_set _ _ _ _ f2,List.map_set];exact set_self _ _ _ (by simp[f2])
   have h7:m'.map (·.1)=m.map (·.1):=by
    rw[←q2,←h2];unfold yW;rw[List.map_map,List.map_map,Array.toList_modify,modify_eq_set _ _ _ _ f2,List.map_set];exact set_self _ _ _ (by simp[f2,f3])
   refine⟨{w2 with heap:=w2.heap.setIfInBounds b (.map (es.modify j (λe'=>{e' with key:=k,val:=val})) clock)},m',?_,⟨_,_,(MapKept.heap_set h0).1,q2,q3,q4,?_,?_⟩,r4,r3,?_,ib h0,by simp⟩
   ·simp[Instr.entryStore,MapKept.run_getObj_map h0,asInt,asIntOf,goInt,h5,h6,MapKept.run_setObj_map _ h0,Result.andThen]
   ·intro e he
    have:e.born∈(es.modify j (λe'=>{e' with key:=k,val:=val})).toList.map (·.born):=OY.2 ⟨e,he,rfl⟩;rw[hb]at this;obtain⟨x,hx,e1⟩:=OY.1 this;rw[←e1];exact s1 x hx
   ·rw[hb];exact s2
   ·intro p hp
    right
    rw[←h7];exact OY.2 ⟨p,hp,rfl⟩
