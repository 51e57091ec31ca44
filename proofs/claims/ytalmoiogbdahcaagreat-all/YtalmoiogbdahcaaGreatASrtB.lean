import Derived.Test.YtalmoiogbdahcaaGreatARefI
import Derived.Test.YtalmoiogbdahcaaGreatALibF
import Derived.Test.YtalmoiogbdahcaaGreatASrtA
import Derived.Lib.OwnBridge
import Derived.Sort.OwnSorted
open Go.Proofs.Tryz
namespace Go.Proofs.YtalmoiogbdahcaaGreat
set_option maxRecDepth 100000
set_option maxHeartbeats 8000000
open Go.RowKit Go.Sort Go.Shelf
theorem mkB(b:BA):(⟨b.data.toList.toArray⟩:BA)=b:=by cases b;simp
theorem Gn(ys:List BA):(ys.map λb=>b.data.toList).map encStr=qg ys:=by
 unfold qg;rw[List.map_map];refine List.map_congr_left λb _=>?_;show Value.string ⟨b.data.toList.toArray⟩=_
 rw[mkB]
theorem J7(w:World)(base:Nat)(v:Value)(ys:List BA)(ha:w.ownsRow base 9 1 v ys.length (qg ys))(hn:ys.Nodup)(hl:ys.length<=1000):
  Calls prog 131 #[v] w λe w'=>e=.returned (.tuple #[])/\ ∃zs,(∀s,s∈zs↔s∈ys)/\zs.length=ys.length/\zy zs/\w'.ownsRow base 9 1 v zs.length (qg zs)/\w.grownBy w' v.ownBlock:=by
 rcases ha.2 with⟨rfl,h0⟩|⟨g,cap,cur,rfl,hi,hg,h1,h2,h3,h4⟩
 ·have hq:ys=[]:=Oy h0
  subst hq;refine(AnyM.slices_Sort_string_none Tryz.sortS none 0 w).mono ?_;rintro e w' ⟨he,rfl⟩;exact⟨he,[],λs=>Iff.rfl,rfl,List.Pairwise.nil,World.ownsRow_nil _ _ _ _,⟨rfl,rfl,rfl,Uc _,λ_ _ _=>rfl⟩⟩
 ·obtain⟨ss,hj⟩: ∃ss,ss=ys.map λb=>b.data.toList:=⟨_,rfl⟩
  have hf:ss.length=ys.length:=by rw[hj,OM]
  have hd:w.ownsRow base 9 1 (.slice (some ⟨g,0,none⟩) ys.length cap) ys.length (ss.map encStr):=by rw[hj,Gn];exact ha
  obtain⟨g',cap',e1,-,hr,-,-,-,hH⟩:=Lib.holds_of_ownsRow hd (by intro e;cases e)
  have eg:g=g':=by injection e1 with e1;injection e1 with e1;injection e1 with e1
  subst eg;have hc:=AnyM.slices_Sort_string Tryz.sortS g 0 cap ss w hH hr (by omega)
  rw[hf]at hc;refine hc.mono ?_;rintro e w' ⟨he,n,os,rfl⟩;obtain⟨ms,ho⟩: ∃ms,ms=ss.mergeSort λx y=>decide (x<=y):=⟨_,rfl⟩;have h9:ms.Perm ss:=by rw[ho];exact List.mergeSort_perm _ _
  have hm:ms.length=ys.length:=h9.length_eq.trans hf;have hk:ms.map encStr=qg (ms.map λl=>(⟨l.toArray⟩:BA)):=by
   unfold qg;rw[List.map_map];rfl
  have hp:ms.Pairwise λx y=>decide (x<=y)=true:=by
   rw[ho];exact List.pairwise_mergeSort (λa b c h1 h2=>by simp at *;exact List.le_trans h1 h2) (λa b=>by simp;exact List.le_total a b) ss
  have ht:ms.Nodup:=by
   refine h9.symm.nodup ?_;rw[hj];exact List.pairwise_map.2 (hn.imp λh e=>h (ByteArray.ext (Array.ext' e)))
  refine⟨he,ms.map λl=>(⟨l.toArray⟩:BA),λs=>?_,by rw[OM];exact hm,?_,?_,?_⟩
  ·rw[OY]
   constructor
   ·rintro⟨l,hl,rfl⟩
    have h5:=h9.mem_iff.1 hl;rw[hj]at h5;obtain⟨b,hb,rfl⟩:=OY.1 h5;rw[mkB];exact hb
   ·intro hs
    refine⟨s.data.toList,h9.mem_iff.2 (by rw[hj];exact OY.2 ⟨s,hs,rfl⟩),mkB s⟩
  ·unfold zy
   rw[List.pairwise_map];refine(hp.and ht).imp ?_;rintro a b ⟨h5,h6⟩;rw[j9];have h7:a<=b:=by simpa using h5
   show(⟨a.toArray⟩:BA).data.toList<(⟨b.toArray⟩:BA).data.toList
   show a<b
   rcases Classical.em (a<b)with h8|h8
   ·exact h8
   ·exact absurd (List.le_antisymm h7 (List.not_lt.1 h8)) h6
  ·rw[OM,←hk,hm]
   have:=ownsRow_sorted (os:=os) (n:=n) (ss:=ss) (ts:=ms) (by rw[hm,hf]) hi hg (by rw[hf];exact h1) h2 h3
   rw[hf]at this;rw[←ho];exact this
  ·exact grownBy_sorted _
open Go.RowKit
theorem fP{a b:BA}(h1:ltB a b=true)(h2:ltB b a=true):False:=by
 rw[j9]at h1 h2;exact List.lt_irrefl _ (List.lt_trans h1 h2)
theorem lQ: ∀(zs ws:List BA),zy zs->zy ws->(∀s,s∈zs↔s∈ws)->zs=ws:=by
 intro zs
 induction zs with
 |nil=>
  intro ws _ _ h;cases ws with
  |nil=>rfl
  |cons b m=>exact absurd ((h b).2 (by simp)) (by simp)
 |cons a l ih=>
  intro ws hz hw h;cases ws with
  |nil=>exact absurd ((h a).1 (by simp)) (by simp)
  |cons b m=>
   obtain⟨h1,h3⟩:=O5.1 hz;obtain⟨h0,h2⟩:=O5.1 hw;have e:a=b:=by
    rcases OT.1 ((h a).1 (by simp))with e|e
    ·exact e
    ·rcases OT.1 ((h b).2 (by simp))with e2|e2
     ·exact e2.symm
     ·exact(fP (h1 b e2) (h0 a e)).elim
   subst e;rw[ih m h3 h2 λs=>?_]
   constructor
   ·intro hs
    rcases OT.1 ((h s).1 (OU _ hs))with e|e
    ·rw[e]at hs;exact(fP (h1 a hs) (h1 a hs)).elim
    ·exact e
   ·intro hs
    rcases OT.1 ((h s).2 (OU _ hs))with e|e
    ·rw[e]at hs;exact(fP (h0 a hs) (h0 a hs)).elim
    ·exact e
