import Derived.Test.YtalmoiogbdahcaaGreatANedA
import Derived.Test.YtalmoiogbdahcaaGreatAGhG
import Derived.ProofKit
import Derived.Deep.Slices
open Go.Proofs.Tryz
namespace Go.Proofs.YtalmoiogbdahcaaGreat
set_option maxRecDepth 100000
set_option maxHeartbeats 8000000
open Go.ChangeShapes Go.WideShapes Go.ChangeAt Go.RowKit Go.Deep
theorem Tryz.opCells:prog.cellsOf 69=6:=by kernel_rfl
theorem Tryz.opBytes:prog.bytesOf 69=72:=by kernel_rfl
theorem Tryz.rIntCells:prog.cellsOf 3=1:=by kernel_rfl
theorem Tryz.rStrCells:prog.cellsOf 9=1:=by kernel_rfl
theorem Tryz.rStrBytes:prog.bytesOf 9=16:=by kernel_rfl
theorem Tryz.txtCells:prog.cellsOf 28=1:=by kernel_rfl
def fN:Option TypeDesc->List (TypeId×Nat)
 |some (.struct fs)=>fs.toList.map λf=>(f.type,f.offset)
 |_=>[]
theorem Tryz.opFields:fN (prog.underlying 69)=[(3,0),(3,1),(3,2),(3,3),(9,4),(28,5)]:=by kernel_rfl
theorem YA: ∃fs:Array Field,prog.underlying 69=some (.struct fs)/\fs.toList.map (λf=>(f.type,f.offset))=[(3,0),(3,1),(3,2),(3,3),(9,4),(28,5)]:=by
 have h:=Tryz.opFields;unfold fN at h;split at h
 ·rename_i fs e;exact⟨fs,e,h⟩
 ·cases h
theorem mQ{fs:Array Field}{l:List (TypeId×Nat)}(h:fs.toList.map (λf=>(f.type,f.offset))=l){i:Nat}{t:TypeId}{o:Nat}(hi:l[i]?=some (t,o)): ∃f,fs[i]?=some f/\f.type=t/\f.offset=o:=by
 rw[←h,OF]at hi;obtain⟨f,hf,e⟩:=Un.1 hi;injection e with e1 e2;exact⟨f,by simpa using hf,e1,e2⟩
theorem QO{H:Type}{P:Program}{e:TypeId}: ∀{l:List (DataW H)} {d:DataW H},d∈l-> ∀n∈d.weights P e,n∈DataW.weightsAll P e l:=by
 intro l
 induction l with
 |nil=>intro d hd;cases hd
 |cons a l ih=>
  intro d hd n hn;rw[DataW.weightsAll,OS];rcases OT.1 hd with rfl|hd
  ·exact Or.inl hn
  ·exact Or.inr (ih hd n hn)
section
variable {H:Type} {enc:TypeId×Value->H} {W:World}
variable{fuel:Nat}{v:Value}
theorem Z5{x:DataW H×List MemPlace}(h:DataW.trod enc prog W 0 (λ_=>true) true fuel 28 [v]=some x)(hw: ∀n∈x.1.weights prog 28,n<=reachBytes):
  ∃xs,pX W v xs/\xs.length<=8796093022208/\ ∀y∈xs,y.size<=140737488355328:=by
 rcases open_strings underlying28 underlying9 Tryz.rStrCells h with⟨h2,hx⟩|⟨a,len,cap,ss,h2,_,hl,hm,hz,hx,h1,h8⟩
 ·injection h2 with h2
  exact⟨[],Or.inl ⟨h2,rfl⟩,Um _,λy hy=>absurd hy O4⟩
 ·injection h2 with h2
  subst h2;simp only[if_true]at hz;subst hx;have h6:(prog.underlying 28)=some (.slice 9):=underlying28;have h5:len * 16<=reachBytes:=by
   have:=hw (((strs (H:=H) (ss.take len)).length+(strs (H:=H) (ss.drop len)).length) * prog.bytesOf 9) (by simp[DataW.weights,h6])
   rw[Tryz.rStrBytes]at this;simp only[strs,OM,OQ,List.length_drop]at this;omega
  have h3: ∀y∈ss.take len,y.size<=reachBytes:=by
   intro y hy;have:=hw y.data.toList.length (by
    rw[DataW.weights,h6];refine OU _ (OS.2 (Or.inl ?_));refine QO (d:=.lit (.string y.data.toList)) ?_ _ (by simp[DataW.weights])
    exact OY.2 ⟨y,hy,rfl⟩)
   simpa using this
  unfold reachBytes at h5 h3;refine⟨ss.take len,?_,by rw[OQ];omega,λy hy=>Ue (h3 y hy) (by omega)⟩
  by_cases hc0:cap=0
  ·have h7:len=0:=by omega
   subst hc0;subst h7;exact Or.inr (Or.inl ⟨a,rfl,rfl⟩)
  ·obtain⟨b,off,spot⟩:=a
   have h4:spot=none:=by simpa[Addr.add]using World.cell?_spot (h1 0 (by omega))
   subst h4;have h0: ∀j,j<ss.length->W.cell? ⟨b,off+j,none⟩=some (.string (ss.getD j ByteArray.empty)):=λj hj=>by rw[←add_plain];exact h1 j hj
   refine Or.inr (Or.inr ⟨b,off,cap,by rw[OQ,Nat.min_eq_left (by omega)],qp (h0 0 (by omega)),λi y hy=>?_⟩)
   rw[List.getElem?_take]at hy;split at hy
   ·have hi:i<ss.length:=(OE.1 hy).1
    rw[h0 i hi,List.getD,hy];rfl
   ·cases hy
theorem gM{y:DataW H×List MemPlace}(h:DataW.trod enc prog W 0 (λ_=>true) true fuel 3 [v]=some y): ∃n,v=.int .i64 n/\ -9223372036854775808<=n/\n<=9223372036854775807:=by
 obtain⟨n,h0,-,h3⟩:=DataW.trod_int underlying3 h;injection h0 with h0;refine⟨n,h0,?_⟩;simp only[Lit.wf,Bool.and_eq_true,decide_eq_true_eq]at h3;obtain⟨h1,h2⟩:=h3;have m1:IntKind.i64.min= -9223372036854775808:=by kernel_rfl
 have m2:IntKind.i64.max=9223372036854775807:=by kernel_rfl
 exact⟨m1▸h1,m2▸h2⟩
instance:Inhabited OpR:=⟨⟨0,0,0,0,ByteArray.empty,.slice none 0 0,[]⟩⟩
end
section
variable {H:Type} {enc:TypeId×Value->H} {W:World}
variable{fuel:Nat}
theorem J6{b o:Nat}{cs:List Value}{x:DataW H×List MemPlace}(h8:W.cells? 0 ⟨b,o,none⟩ 6=some cs)(h:DataW.trod enc prog W 0 (λ_=>true) true fuel 69 cs=some x)(hw: ∀n∈x.1.weights prog 69,n<=reachBytes):
  ∃r,bQ W b o r/\OpOk2 W r:=by
 obtain⟨fs,hu,h4⟩:=YA;obtain⟨ys,k,-,hx,-,h9,hf⟩:=DataW.trod_struct hu h;obtain⟨-,h5,h3⟩:=World.cells?_some h8;have h0: ∀j,j<6->W.cell? ⟨b,o+j,none⟩=cs[j]?:=λj hj=>by rw[←add_plain];exact h3 j hj
 match cs,h5 with
 | [v0,v1,v2,v3,v4,v5],_=>
  have h1: ∀(i:Nat) (t:TypeId) (v:Value),[(3,0),(3,1),(3,2),(3,3),(9,4),(28,5)][i]?=some (t,i)->prog.cellsOf t=1->([v0,v1,v2,v3,v4,v5].drop i).take 1=[v]-> ∃y,ys[i]?=some y/\DataW.trod enc prog W 0 (λ_=>true) true k t [v]=some y:=by
   intro i t v hi hc hv;obtain⟨f,h2,e1,e2⟩:=mQ h4 hi;have:=hf i f h2;rw[e1,e2,hc,hv]at this;have h6:i<ys.length:=by rw[h9];exact(Array.getElem?_eq_some_iff.1 h2).1
   exact⟨ys[i],OC h6,by rw[this,OC h6]⟩
  obtain⟨y0,-,g0⟩:=h1 0 _ v0 rfl Tryz.rIntCells rfl;obtain⟨y1,-,g1⟩:=h1 1 _ v1 rfl Tryz.rIntCells rfl;obtain⟨y2,-,g2⟩:=h1 2 _ v2 rfl Tryz.rIntCells rfl;obtain⟨y3,-,g3⟩:=h1 3 _ v3 rfl Tryz.rIntCells rfl;obtain⟨y4,e4,g4⟩:=h1 4 _ v4 rfl Tryz.rStrCells rfl;obtain⟨y5,e5,g5⟩:=h1 5 _ v5 rfl Tryz.txtCells rfl;obtain⟨n0,rfl,-⟩:=gM g0;obtain⟨n1,rfl,ha⟩:=gM g1;obtain⟨n2,rfl,-⟩:=gM g2;obtain⟨n3,rfl,-⟩:=gM g3;obtain⟨s,hs,hg,-⟩:=DataW.trod_string underlying9 g4;injection hs with hs;subst hs;have hb: ∀n∈y5.1.weights prog 28,n<=reachBytes:=by
   intro n hn;refine hw n ?_;rw[hx,DataW.weights,hu];refine DataW.weights_mem_each (j:=5) (t:=28) (d:=y5.1) ?_ (by rw[OF,e5];rfl) n hn
   obtain⟨f,h2,e1,-⟩:=mQ h4 (i:=5) rfl;rw[OF];have:fs.toList[5]?=some f:=by simpa using h2
   rw[this];simp[e1]
  obtain⟨xs,ht,hl,hd⟩:=Z5 g5 hb;have h7:s.data.toList.length<=reachBytes:=by
   refine hw _ ?_;rw[hx,DataW.weights,hu];refine DataW.weights_mem_each (j:=4) (t:=9) (d:=y4.1) ?_ (by rw[OF,e4];rfl) _ ?_
   ·obtain⟨f,h2,e1,-⟩:=mQ h4 (i:=4) rfl
    rw[OF];have:fs.toList[4]?=some f:=by simpa using h2
    rw[this];simp[e1]
   ·rw[hg];simp[DataW.weights]
  have he:s.size<=maxLen:=by
   have e:s.size=s.data.toList.length:=by rw[Array.length_toList];rfl
   unfold reachBytes at h7;rw[e];unfold maxLen;omega
  refine⟨⟨n0,n1,n2,n3,s,v5,xs⟩,⟨h0 0 (by omega),h0 1 (by omega),h0 2 (by omega),h0 3 (by omega),h0 4 (by omega),h0 5 (by omega)⟩,⟨ha,ht,hl,hd⟩,he⟩
theorem fO{x:Option Addr}{n c:Nat}{d:DataW H}{ps:List MemPlace}(h:DataW.trod enc prog W 0 (λ_=>true) true fuel 22 [.slice x n c]=some (d,ps))(hw: ∀k∈d.weights prog 22,k<=reachBytes):
  n=0\/ ∃(b off:Nat) (ops:List OpR),x=some ⟨b,off,none⟩/\b<W.heap.size/\ops.length=n/\n * 72<=140737488351232/\ ∀i r,ops[i]?=some r->bQ W b (off+i * 6) r/\OpOk2 W r:=by
 rcases open_slice underlying22 h with⟨h3,-⟩|⟨a,len,cap,m,k,D,Pl,h3,-,hl,-,hm,hx,h6⟩
 ·injection h3 with h3
  injection h3 with _ h3;exact Or.inl h3
 ·injection h3 with h3
  injection h3 with e1 e2 e3;subst e1;subst e2;subst e3;simp only[if_true]at hm;subst hm;rcases Nat.eq_zero_or_pos n with h0|h0
  ·exact Or.inl h0
  ·right
   injection hx with hx _;subst hx;rw[Tryz.opCells]at h6;have h8:(prog.underlying 22)=some (.slice 69):=underlying22;obtain⟨b,off,spot⟩:=a;have h5:spot=none:=by
    obtain⟨cs',h1,-⟩:=h6 0 (by omega)
    obtain⟨-,h9,hc⟩:=World.cells?_some h1;have:=hc 0 (by omega)
    rw[OC (by omega)]at this
    simpa[Addr.add]using World.cell?_spot this
   subst h5;have h4:n * 72<=reachBytes:=by
    have:=hw ((((List.range n).map D).length+((List.range (m-n)).map λj=>D (n+j)).length) * prog.bytesOf 69) (by simp[DataW.weights,h8])
    rw[Tryz.opBytes]at this;simp only[OM,List.length_range]at this;exact Ue (Nat.mul_le_mul_right 72 (Nat.le_add_right _ _)) this
   have h7: ∀i,i<n-> ∃r,bQ W b (off+i * 6) r/\OpOk2 W r:=by
    intro i hi;obtain⟨cs',h1,h2⟩:=h6 i (by omega)
    rw[add_plain]at h1;refine J6 h1 h2 λq hq=>hw q ?_;rw[DataW.weights,h8];exact OU _ (OS.2 (Or.inl (QO (OY.2 ⟨i,List.mem_range.2 hi,rfl⟩) q hq)))
   obtain⟨R,hR⟩:=choose_lt h7;refine⟨b,off,(List.range n).map R,rfl,?_,by simp,h4,λi r hr=>?_⟩
   ·exact qp (hR 0 h0).1.1
   ·have hi:i<n:=by have:=(OE.1 hr).1;simpa using this
    rw[OF,List.getElem?_range hi]at hr;injection hr with hr;subst hr;exact hR i hi
end
