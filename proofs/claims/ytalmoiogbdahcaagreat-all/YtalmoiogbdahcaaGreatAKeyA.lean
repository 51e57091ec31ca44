import Derived.Test.YtalmoiogbdahcaaGreatAMapA
import Derived.Test.YtalmoiogbdahcaaGreatAFltA
open Go.Proofs.Tryz
namespace Go.Proofs.YtalmoiogbdahcaaGreat
set_option maxRecDepth 100000
set_option maxHeartbeats 8000000
open Go.RowKit
def ndV(x:Nod):Value:=.agg #[.string x.k,.string x.n,.string x.r]
def ndC(x:Nod):List Value:=[.string x.k,.string x.n,.string x.r]
theorem Qy{x y:Nod}(h:ndV x=ndV y):x=y:=by
 obtain⟨a,b,c⟩:=x;obtain⟨d,e,f⟩:=y;unfold ndV at h;simp at h;obtain⟨rfl,rfl,rfl⟩:=h
 rfl
theorem Tryz.nodeRow:(75:TypeId)<prog.types.size:=of_decide_eq_true (by kernel_rfl)
theorem Tryz.nodeAt:prog.keyTypeAt 2 75=true:=by kernel_rfl
theorem Tryz.nodeLaw:WideMaps.KeyLaw prog 75:=deep_law_laid Tryz.laidOutT (m:=2) (by decide) Tryz.nodeRow Tryz.nodeAt (by rw[underlying75])
theorem Tryz.nodeKey:prog.keyType 75=true:=by kernel_rfl
theorem Tryz.nodeCells:prog.cellsOf 75=3:=by kernel_rfl
theorem JE(k n r:BA)(hk:k.size<=maxLen)(hn:n.size<=maxLen)(hr:r.size<=maxLen): ∃l,keyOf prog 75 (ndV ⟨k,n,r⟩)=some l:=by
 obtain⟨q,hq⟩:=Tryz.typesN;refine⟨.string (keyBytes [.string k.data.toList,.string n.data.toList,.string r.data.toList]),?_⟩;unfold keyOf ndV;rw[hq];simp[underlying75,Tryz.nodeKey,Value.formed,Tryz.nodeCells,Program.keyLits,Value.cells,Tryz.strCells,underlying9,hk,hn,hr]
def uq(x:Nod):Prop:=x.k.size<=maxLen/\x.n.size<=maxLen/\x.r.size<=maxLen
def cZ(v:Value):Prop:= ∃x:Nod,v=ndV x/\uq x
theorem Qz:KeyOk prog 75 cZ:=
 (KeyOk.of_law Tryz.nodeLaw).sub λv ⟨x,e,h1,h2,h3⟩=>by rw[e];exact JE x.k x.n x.r h1 h2 h3
def oM(v:Value):Prop:= ∃s:BA,v=.string s/\s.size<=maxLen
theorem X1:KeyOk prog 9 oM:=
 (KeyOk.of_law (WideMaps.string_law underlying9)).sub λv ⟨s,e,h⟩=>by rw[e];exact⟨_,WideMaps.keyOf_string_mk underlying9 h⟩
def cxV(i j:Nat):Value:=.complex .f64 (fb i) (fb j)
def CxG(v:Value):Prop:= ∃i j,i<8192/\j<8192/\v=cxV i j
variable{a b:Nat}
theorem jm(ha:a<8192)(hb:b<8192):Op.floatEq .f64 (fb a) (fb b)=decide (a=b):=bD ha hb
variable{i j:Nat}
theorem oN(hi:i<8192)(hj:j<8192)(ha:a<8192)(hb:b<8192)(w:World):(Op.equal 136 (cxV i j) (cxV a b)).run prog w=.ok (decide (i=a) && decide (j=b)) w:=by
 unfold Op.equal Op.maxDepth cxV;rw[show(10000:Nat)=9999+1 from rfl,Op.equalIn];simp only[Sem.run_bind,run_underlying underlying136,Result.andThen,jm hi ha,jm hj hb]
 rfl
theorem QA(hi:i<8192)(hj:j<8192)(ha:a<8192)(hb:b<8192)(h:cxV i j=cxV a b):i=a/\j=b:=by
 unfold cxV at h;injection h with _ h1 h2;have e1:=jm hi ha;have e2:=jm hj hb;rw[h1]at e1;rw[h2]at e2;have f1:=jm ha ha;have f2:=jm hb hb;rw[f1]at e1;rw[f2]at e2;simp at e1 e2;exact⟨e1,e2⟩
theorem GU(hi:i<8192)(hj:j<8192)(w:World): ∀(es:List MapEntry) (n:Nat),(∀e∈es,CxG e.key)->
  ((Instr.findAsking 136 (cxV i j) es n).run prog w=.ok none w/\ ∀e∈es,e.key≠cxV i j)\/ ∃q e,(Instr.findAsking 136 (cxV i j) es n).run prog w=.ok (some (n+q,e.val)) w/\es[q]?=some e/\e.key=cxV i j:=by
 intro es
 induction es with
 |nil=>intro n _;exact Or.inl ⟨by simp[Instr.findAsking],by simp⟩
 |cons e es ih=>
  intro n h;obtain⟨a,b,ha,hb,he⟩:=h e (by simp)
  by_cases h4:i=a/\j=b
  ·obtain⟨rfl,rfl⟩:=h4
   refine Or.inr ⟨0,e,?_,rfl,he⟩;simp[Instr.findAsking,he,oN hi hj hi hj,Result.andThen]
  ·have hf:(decide (i=a) && decide (j=b))=false:=by
    cases h1:(decide (i=a) && decide (j=b))
    ·rfl
    ·simp at h1;exact absurd h1 h4
   have h0:(Instr.findAsking 136 (cxV i j) (e::es) n).run prog w=(Instr.findAsking 136 (cxV i j) es (n+1)).run prog w:=by
    rw[Instr.findAsking,he];simp only[Sem.run_bind,oN hi hj ha hb,hf,Result.andThen]
    rfl
   rw[h0];have h5:e.key≠cxV i j:=by
    rw[he];intro e1;exact h4 (by have:=QA ha hb hi hj e1;exact⟨this.1.symm,this.2.symm⟩)
   rcases ih (n+1) (λx hx=>h x (by simp[hx]))with⟨h1,h2⟩|⟨q,e',h1,h2,h3⟩
   ·exact Or.inl ⟨h1,λx hx=>by
     rcases OT.1 hx with rfl|hx
     ·exact h5
     ·exact h2 x hx⟩
   ·exact Or.inr ⟨q+1,e',by rw[h1,show n+1+q=n+(q+1) by omega],by simpa using h2,h3⟩
theorem JF(em:Bool)(n i j:Nat)(w:World):(Instr.checkKey em (n+1) 136 (cxV i j)).run prog w=.ok () w:=by
 rw[Instr.checkKey];simp only[Sem.run_bind,run_underlying underlying136,Result.andThen]
 rfl
theorem da:KeyOk prog 136 CxG where
 check:=λw em v ⟨i,j,hi,hj,e⟩=>by
  rw[e];exact JF em 9999 i j w
 find:=λw x ⟨i,j,hi,hj,e⟩ es h0=>by
  rw[e];cases es with
  |nil=>exact Or.inl ⟨by simp[Instr.findKey,run_underlying underlying136,Instr.findNow,Result.andThen],by simp⟩
  |cons a es=>
   have hk:(Instr.findKey 136 (cxV i j) (a::es)).run prog w=(Instr.findAsking 136 (cxV i j) (a::es) 0).run prog w:=by
    unfold Instr.findKey;simp[run_underlying underlying136,Instr.findNow,Instr.sameNow,Result.andThen]
   rw[hk];rcases GU hi hj w (a::es) 0 h0 with h|⟨q,e',h1,h2,h3⟩
   ·exact Or.inl h
   ·exact Or.inr ⟨q,e',by rw[h1,Ul],h2,h3⟩
 stays:=λw v ⟨i,j,hi,hj,e⟩=>by
  rw[e];have h:Instr.sameBits 10000 (cxV i j) (cxV i j)=true:=by unfold cxV;rw[Instr.sameBits];simp
  unfold Instr.keyThatStays;rw[if_pos h]
  rfl
