import Derived.Test.YtalmoiogbdahcaaGreatANumA
import Derived.Test.YtalmoiogbdahcaaGreatAKeyA
open Go.Proofs.Tryz
namespace Go.Proofs.YtalmoiogbdahcaaGreat
set_option maxRecDepth 100000
set_option maxHeartbeats 8000000
open Go.RowKit
def kZ{α:Type}[DecidableEq α](enc:α->Value)(cl:α->List Value)(Gd:Value->Prop)(tN tE:TypeId)(size:Nat)(w:World)(lo nb mb:Nat)(sv:Value)(vs:List α)(v:α)(e:Ending)(w':World):Prop:=
 e=.returned (.int .i64 ((zz vs v).idxOf v:Nat))/\ ∃sv',NumAt enc cl Gd tN tE size w' lo nb mb sv' (zz vs v)/\Frm (ur nb mb sv) w w'/\ ∀k,sv'.ownBlock=some k->sv.ownBlock=some k\/w.heap.size<=k
variable{Gd:Value->Prop}{lo mb nb size:Nat}{sv:Value}{tE tN:TypeId}{w:World}{α:Type}
theorem rK[DecidableEq α]{enc:α->Value}{cl:α->List Value}{w':World}{vs:List α}{v:α}(h:NumAt enc cl Gd tN tE size w lo nb mb sv vs)(hv:v∈vs)(hb:Below w.heap.size w w'):kZ enc cl Gd tN tE size w lo nb mb sv vs v (.returned (.int .i64 (vs.idxOf v:Nat))) w':=by
 have e:zz vs v=vs:=by unfold zz;rw[if_pos hv]
 unfold kZ;rw[e];exact⟨rfl,sv,h.keep (X:=λ_=>False) (Frm.of_below hb) (λ_ _ e=>e),Frm.of_below hb,λk hk=>Or.inl hk⟩
theorem rL[DecidableEq α]{enc:α->Value}{cl:α->List Value}{kt tM tS:TypeId}{z:Value}{bytes:Nat}(K:KeyOk prog kt Gd)(ht:prog.underlying tM=some (.map kt 3))
  (hu:prog.underlying tS=some (.slice tE)) (hi:(prog.info? tE).map (λi=>(i.zero,i.size,i.bytes))=some (some z,size,bytes)) (hz:z.cells.size=size) (hs:0<size) (hd:bytes<=100) (ha:tN≠tE)
  {W:World}   {vs:List α} {v:α} (h:NumAt enc cl Gd tN tE size W lo nb mb sv vs) (hb:Below W.heap.size W w) (hg:Gd (enc v)) (h6: ∀a∈vs,enc a=enc v->a=v) (hv:v∉vs) (hc:(cl v).length=size) (h1: ∀u∈cl v,u.oneCell'=true) (hj:lo<=W.heap.size) (hn:vs.length<=100000000):
  ∃w1,(Instr.mapUpdate tM (.map (some mb)) (enc v) (.int .i64 (vs.length:Nat))).run prog w=.ok () w1/\w.grownBy w1 (some mb)/\w1.heap.size=w.heap.size/\nb≠mb/\ ∀w2:World,Below w1.heap.size w1 w2->w2.cell? ⟨nb,1,none⟩=some sv/\
   ∃v' w3,(Builtin.append_ #[tS,tS] tS #[sv,.slice (some ⟨w2.heap.size,0,none⟩) 1 1]).run prog (w2.alloc (.cells (cl v).toArray tE))=.ok v' w3/\(∃x c,v'=.slice x (vs.length+1) c)/\w2.grownBy w3 sv.ownBlock/\w3.cell? ⟨nb,1,none⟩=some sv/\w3.frozen? ⟨nb,1,none⟩=false/\
    ∀w4,Below w3.heap.size w3 w4->kZ enc cl Gd tN tE size W lo nb mb sv vs v (.returned (.int .i64 (vs.length:Nat))) (w4.setCell ⟨nb,1,none⟩ v'):=by
 have h0:=h.keep (X:=λ_=>False) (Frm.of_below hb) (λ_ _ e=>e);have hf:getM (cG enc vs) (enc v)=none:=by rw[gF h6,if_neg hv]
 obtain⟨w1,r1,m1,g1,s1⟩:=dN K ht h0.map hg hf (.int .i64 (vs.length:Nat));have h5:nb≠mb:=by
  intro e;obtain⟨es,c,q,-⟩:=h0.map;have:=h0.blk;rw[e,q]at this;injection this with this;cases this
 have h7: ∀k,sv.ownBlock=some k->k≠mb:=by
  intro k hk e;obtain⟨-,-,cur,q⟩:=qf h0.row k hk;obtain⟨es,c,q2,-⟩:=h0.map;rw[e,q2]at q;injection q with q;cases q
 have h8: ∀k,sv.ownBlock=some k->k≠nb:=by
  intro k hk e;obtain⟨-,-,cur,q⟩:=qf h0.row k hk;rw[e,h0.blk]at q;injection q with q;injection q with _ q;exact ha q
 have hw:W.heap.size<=w.heap.size:=hb.size;have h9:cG enc (vs++[v])=cG enc vs++[(enc v,.int .i64 (vs.length:Nat))]:=by
  have:=wS enc vs 0 v;rw[Ul]at this;exact this
 refine⟨w1,r1,g1,s1,h5,λw2 h2=>?_⟩;have b1:w1.heap[nb]?=some (.cells [.map (some mb),sv].toArray tN (0,0)):=by
  rw[g1.block nb (qc h0.blk) (λe=>h5 (by injection e))];exact h0.blk
 have b2:w2.heap[nb]?=some (.cells [.map (some mb),sv].toArray tN (0,0)):=by rw[h2.block nb (qc b1)];exact b1
 have o1:w1.ownsRow lo tE size sv vs.length (vs.flatMap cl):=qF h0.row λg h4=>g1.block g (qf h0.row g h4).1 (λe=>h7 g h4 (by injection e))
 have o2:=q9 o1 h2;have m2:zt w2 Gd mb (cG enc vs++[(enc v,.int .i64 (vs.length:Nat))]):=m1.move (h2.block mb m1.lt);obtain⟨v',w3,r3,o3,g3,n3⟩:=pr hu hi hz hs hd w2 lo sv vs.length (vs.flatMap cl) (cl v) hc h1 o2 (by have:=h2.size;omega) hn
 have b3:w3.heap[nb]?=some (.cells [.map (some mb),sv].toArray tN (0,0)):=by rw[g3.block nb (qc b2) (λe=>h8 nb e.symm rfl)];exact b2
 have m3:zt w3 Gd mb (cG enc vs++[(enc v,.int .i64 (vs.length:Nat))]):=m2.move (g3.block mb m2.lt (λe=>h7 mb e.symm rfl));refine⟨qa b2 (j:=1) rfl,v',w3,r3,qz o3,g3,qa b3 (j:=1) rfl,qd b3 1,λw4 h3=>?_⟩;have b4:w4.heap[nb]?=some (.cells [.map (some mb),sv].toArray tN (0,0)):=by rw[h3.block nb (qc b3)];exact b3
 have m4:zt w4 Gd mb (cG enc vs++[(enc v,.int .i64 (vs.length:Nat))]):=m3.move (h3.block mb m3.lt);have o4:=q9 o3 h3;have he:W.heap.size<=w4.heap.size:=by have:=h2.size;have:=g3.size;have:=h3.size;omega
 have ea:zz vs v=vs++[v]:=by unfold zz;rw[if_neg hv]
 refine⟨by rw[JS hv],v',⟨qL b4 1 v',?_,?_,kO h.nd v,h.lob,h.lom⟩,?_,?_⟩
 ·rw[ea,h9]
  exact m4.move (Ot _ _ _ _ (Ne.symm h5))
 ·rw[ea,OK,List.flatMap_append,List.flatMap_cons,List.flatMap_nil,List.append_nil]
  refine qF o4 λg h4=>Ot _ _ _ _ ?_;rcases n3 g h4 with e|e
  ·exact h8 g e
  ·have:=qc b2;show g≠nb;omega
 ·refine⟨?_,?_,?_,?_,?_⟩
  ·show w4.os=_;rw[h3.os,g3.os,h2.os,g1.os,hb.os]
  ·show w4.tape=_;rw[h3.tape,g3.tape,h2.tape,g1.tape,hb.tape]
  ·show w4.output=_;rw[h3.output,g3.output,h2.output,g1.output,hb.output]
  ·simp[World.setCell];exact he
  ·intro k hk hx
   have k1: ¬k=nb:=λe=>hx (Or.inl e);have k2: ¬k=mb:=λe=>hx (Or.inr (Or.inl e));have k3: ¬sv.ownBlock=some k:=λe=>hx (Or.inr (Or.inr e));rw[Ot _ _ _ _ k1,h3.block k (by have:=h2.size;have:=g3.size;omega),g3.block k (by have:=h2.size;omega) (λe=>k3 e.symm),h2.block k (by omega),g1.block k (by omega) (λe=>k2 (by injection e)),hb.block k hk]
 ·intro k hk
  rcases n3 k hk with e|e
  ·exact Or.inl e
  ·right;have:=h2.size;omega
theorem Tryz.infoCx:(prog.info? 136).map (λi=>(i.zero,i.size,i.bytes))=some (some (.complex .f64 0 0),1,16):=by kernel_rfl
abbrev lJ{α:Type}(enc:α->Value)(w:World)(lo nb mb:Nat)(sv:Value)(vs:List α):Prop:=NumAt enc (λa=>[enc a]) CxG 172 136 1 w lo nb mb sv vs
abbrev vZ{α:Type}[DecidableEq α](enc:α->Value)(w:World)(lo nb mb:Nat)(sv:Value)(vs:List α)(v:α)(e:Ending)(w':World):Prop:=kZ enc (λa=>[enc a]) CxG 172 136 1 w lo nb mb sv vs v e w'
theorem rM(w:World):(zeroValue 3).run prog w=.ok (.int .i64 0) w:=zeroValue3 w
theorem tj[DecidableEq α](enc:α->Value)(v:α)(p q:Nat)(hv:enc v=.complex .f64 p q){vs:List α}(h:lJ enc w lo nb mb sv vs)(hg:CxG (enc v))(h0: ∀a∈vs,enc a=enc v->a=v)(h4:lo<=w.heap.size)(hn:vs.length<=100000000):
  Calls prog 135 #[.pointer (some ⟨nb,0,none⟩),.complex .f64 p q] w (vZ enc w lo nb mb sv vs v):=by
 have c0:=qa h.blk (j:=0) rfl;have c1:=qa h.blk (j:=1) rfl;have h3:=(uV da underlying169 h.map hg (rM w)).1;rw[gF h0,hv]at h3;by_cases hm:v∈vs
 ·rw[if_pos hm]at h3
  have HP:Hid (vZ enc w lo nb mb sv vs v (.returned (.int .i64 (vs.idxOf v:Nat))) w):=rK h hm (Ou _ _);generalize vZ enc w lo nb mb sv vs v=post at *;generalize vs.idxOf v=ix at *;dsimp only[Option.getD_some,Option.isSome_some]at h3;clear h h0 hg hv c1;go_enter func135,ntmps135;go_wp2;exact HP.out
 ·rw[if_neg hm]at h3
  dsimp only[Option.getD_none,Option.isSome_none]at h3;obtain⟨x,c,rfl⟩:=qz h.row;obtain⟨w1,h5,g1,s1,h6,h1⟩:=rL da underlying169 underlying170 Tryz.infoCx rfl (by decide) (by decide) (by decide) h (Ou _ _) hg h0 hm rfl (by intro u hu;simp at hu;rw[hu,hv];rfl) h4 hn
  obtain⟨d1,v',w3,hr,⟨x',c',rfl⟩,g3,d3,f3,h2⟩:=h1 w1 (Ou _ _);have HP:Hid (vZ enc w lo nb mb (.slice x vs.length c) vs v (.returned (.int .i64 (vs.length:Nat))) (w3.setCell ⟨nb,1,none⟩ (.slice x' (vs.length+1) c'))):=h2 w3 (Ou _ _);rw[hv]at h5 hr;generalize vZ enc w lo nb mb (.slice x vs.length c) vs v=post at *;clear h h0 hg hv h2 h1 g1 s1 g3;generalize vs.length=n at *;go_enter func135,ntmps135
  go_wp2_with(at_builtin;refine qo rfl (.tmp 33) (.tmp 35) 170 rfl _ _ _ rfl rfl hr ?_)
  exact HP.out
abbrev df{α:Type}(enc:α->Value)(w:World)(lo nb mb:Nat)(sv:Value)(vs:List α):Prop:=NumAt enc (λa=>[enc a]) oM 223 9 1 w lo nb mb sv vs
abbrev uj{α:Type}[DecidableEq α](enc:α->Value)(w:World)(lo nb mb:Nat)(sv:Value)(vs:List α)(v:α)(e:Ending)(w':World):Prop:=kZ enc (λa=>[enc a]) oM 223 9 1 w lo nb mb sv vs v e w'
theorem oX[DecidableEq α](enc:α->Value)(v:α)(p:BA)(hv:enc v=.string p){vs:List α}(h:df enc w lo nb mb sv vs)(hg:oM (enc v))(h0: ∀a∈vs,enc a=enc v->a=v)(h4:lo<=w.heap.size)(hn:vs.length<=100000000):
  Calls prog 138 #[.pointer (some ⟨nb,0,none⟩),.string p] w (uj enc w lo nb mb sv vs v):=by
 have c0:=qa h.blk (j:=0) rfl;have c1:=qa h.blk (j:=1) rfl;have h3:=(uV X1 underlying221 h.map hg (rM w)).1;rw[gF h0,hv]at h3;by_cases hm:v∈vs
 ·rw[if_pos hm]at h3
  have HP:Hid (uj enc w lo nb mb sv vs v (.returned (.int .i64 (vs.idxOf v:Nat))) w):=rK h hm (Ou _ _);generalize uj enc w lo nb mb sv vs v=post at *;generalize vs.idxOf v=ix at *;dsimp only[Option.getD_some,Option.isSome_some]at h3;clear h h0 hg hv c1;go_enter func138,ntmps138;go_wp2;exact HP.out
 ·rw[if_neg hm]at h3
  dsimp only[Option.getD_none,Option.isSome_none]at h3;obtain⟨x,c,rfl⟩:=qz h.row;obtain⟨w1,h5,g1,s1,h6,h1⟩:=rL X1 underlying221 underlying28 Tryz.infoStr rfl (by decide) (by decide) (by decide) h (Ou _ _) hg h0 hm rfl (by intro u hu;simp at hu;rw[hu,hv];rfl) h4 hn
  obtain⟨d1,v',w3,hr,⟨x',c',rfl⟩,g3,d3,f3,h2⟩:=h1 w1 (Ou _ _);have HP:Hid (uj enc w lo nb mb (.slice x vs.length c) vs v (.returned (.int .i64 (vs.length:Nat))) (w3.setCell ⟨nb,1,none⟩ (.slice x' (vs.length+1) c'))):=h2 w3 (Ou _ _);rw[hv]at h5 hr;generalize uj enc w lo nb mb (.slice x vs.length c) vs v=post at *;clear h h0 hg hv h2 h1 g1 s1 g3;generalize vs.length=n at *;go_enter func138,ntmps138
  go_wp2_with(at_builtin;refine qo rfl (.tmp 33) (.tmp 35) 28 rfl _ _ _ rfl rfl hr ?_)
  exact HP.out
theorem Tryz.infoNode:(prog.info? 75).map (λi=>(i.zero,i.size,i.bytes))=some (some (.agg #[.string {data:= #[]},.string {data:= #[]},.string {data:= #[]}]),3,48):=by kernel_rfl
abbrev jQ(w:World)(lo nb mb:Nat)(sv:Value)(vs:List Nod):Prop:=NumAt ndV ndC cZ 176 75 3 w lo nb mb sv vs
abbrev v8(w:World)(lo nb mb:Nat)(sv:Value)(vs:List Nod)(v:Nod)(e:Ending)(w':World):Prop:=kZ ndV ndC cZ 176 75 3 w lo nb mb sv vs v e w'
theorem tm(v:Nod){vs:List Nod}(h:jQ w lo nb mb sv vs)(hg:uq v)(h6:lo<=w.heap.size)(hn:vs.length<=100000000):
  Calls prog 136 #[.pointer (some ⟨nb,0,none⟩),.agg #[.string v.k,.string v.n,.string v.r]] w (v8 w lo nb mb sv vs v):=by
 have h0: ∀a∈vs,ndV a=ndV v->a=v:=λa _ e=>Qy e;have h9:nb<w.heap.size:=qc h.blk;have c0:=qa h.blk (j:=0) rfl;have he:=λo=>qa (qG h.blk o) (j:=0) rfl;have ha:=λo=>qa (qG h.blk o) (j:=1) rfl;have h3: ∀w2,Below w.heap.size w w2->(Instr.lookup 173 (.map (some mb)) (ndV v) true).run prog w2=.ok (.tuple #[(getM (cG ndV vs) (ndV v)).getD (.int .i64 0),.bool (getM (cG ndV vs) (ndV v)).isSome]) w2:=λw2 h5=>
  (uV Qz underlying173 (h.map.move (h5.block _ h.map.lt)) ⟨v,rfl,hg⟩ (rM w2)).1
 rw[gF h0]at h3;by_cases hm:v∈vs
 ·rw[if_pos hm]at h3
  have h4:=h3 (((w.alloc (.cells #[.string v.k,.string v.n,.string v.r] 75))).drew) bl;have HP:Hid (∀w',Below w.heap.size w w'->v8 w lo nb mb sv vs v (.returned (.int .i64 (vs.idxOf v:Nat))) w'):=λw' hb=>rK h hm hb;generalize v8 w lo nb mb sv vs v=post at *;generalize vs.idxOf v=ix at *;unfold ndV at h4;dsimp only[Option.getD_some,Option.isSome_some]at h4;clear h h0 h3;go_enter func136,ntmps136;go_wp2
  go_region
  all_goals go_wp2
  all_goals exact HP.out _ bl
 ·rw[if_neg hm]at h3
  have h4:=h3 (((w.alloc (.cells #[.string v.k,.string v.n,.string v.r] 75))).drew) bl;unfold ndV at h4;dsimp only[Option.getD_none,Option.isSome_none]at h4;obtain⟨x,c,rfl⟩:=qz h.row;obtain⟨w1,h7,g1,s1,h8,h2⟩:=rL Qz underlying173 underlying174 Tryz.infoNode rfl (by decide) (by decide) (by decide) h (w:=(w.alloc (.cells #[.string v.k,.string v.n,.string v.r] 75)).drew.drew) bl ⟨v,rfl,hg⟩ h0 hm rfl (by intro u hu;simp[ndC]at hu;rcases hu with rfl|rfl|rfl<;>rfl) h6 hn
  obtain⟨d1,v',w3,hr,⟨x',c',rfl⟩,g3,d3,f3,h1⟩:=h2 w1.drew bl;have hc:=λo=>(World.cell?_of_block (w:=w1) (w':=w1.alloc o) (a:=⟨nb,1,none⟩) (Oq w1 o nb (qp (w:=w1) d1))).trans d1;have HP:Hid (v8 w lo nb mb (.slice x vs.length c) vs v (.returned (.int .i64 (vs.length:Nat))) (w3.setCell ⟨nb,1,none⟩ (.slice x' (vs.length+1) c'))):=h1 w3 (Ou _ _);unfold ndV at h7;unfold ndC at hr;have hd:=λo=>(zR g1).1 w.heap.size o (by show _<(w.heap.push _).size;simp) (by have:=h.map.lt;omega)
  generalize v8 w lo nb mb (.slice x vs.length c) vs v=post at *;clear h h0 h1 h2 g1 s1 g3 h3;generalize vs.length=n at *;go_enter func136,ntmps136;go_wp2
  go_region
  all_goals go_wp2
  all_goals go_region
  all_goals go_wp2
  all_goals go_region_law (refine iC rfl (.tmp 33) (.tmp 35) 174 rfl _ _ _ rfl rfl hr ?_)
  all_goals go_wp2
  all_goals exact HP.out
def yY{α:Type}(enc:α->Value)(cl:α->List Value)(Gd:Value->Prop)(tN tE:TypeId)(size:Nat)(w:World)(vs:List α)(e:Ending)(w':World):Prop:=
 ∃nb mb sv,e=.returned (.pointer (some ⟨nb,0,none⟩))/\NumAt enc cl Gd tN tE size w' w.heap.size nb mb sv vs/\Below w.heap.size w w'
theorem aI(enc:α->Value)(cl:α->List Value)(Gd:Value->Prop)(tN tE:TypeId)(size:Nat)(w:World):
  NumAt enc cl Gd tN tE size ((w.alloc (.map #[] 0)).alloc (.cells #[.map (some w.heap.size),.slice none 0 0] tN)) w.heap.size (w.heap.size+1) w.heap.size (.slice none 0 0) []:=by
 have e:(w.alloc (.map #[] 0)).heap.size=w.heap.size+1:=by show(w.heap.push _).size=_;simp
 have h:=qn (w.alloc (.map #[] 0)) [.map (some w.heap.size),.slice none 0 0] tN;rw[e]at h;exact⟨h,(zt.new w Gd).move (Oq _ _ _ (by rw[e];omega)),World.ownsRow_nil _ _ _ _,List.nodup_nil,by omega,Uc _⟩
abbrev dO(w:World)(tN:TypeId):World:=(w.alloc (.map #[] 0)).alloc (.cells #[.map (some w.heap.size),.slice none 0 0] tN)
theorem Yj(enc:α->Value)(w:World):Calls prog 85 #[.slice none 0 0] w (yY enc (λa=>[enc a]) CxG 172 136 1 w []):=by
 have h0:=λw1=>run_makeMap (P:=prog) 169 w1;have HP:Hid (yY enc (λa=>[enc a]) CxG 172 136 1 w [] (.returned (.pointer (some ⟨w.heap.size+1,0,none⟩))) (dO w 172)):=
  ⟨_,_,_,rfl,aI enc _ CxG _ _ 1 w,bl⟩
 generalize yY enc (λa=>[enc a]) CxG 172 136 1 w []=post at *;go_enter func85,ntmps85;go_wp2;refine wp_loop_rounds 1 ?_;rw[rounds_succ];go_wp2;exact HP.out
theorem tq(w:World):Calls prog 132 #[.slice none 0 0] w (yY ndV ndC cZ 176 75 3 w []):=by
 have h0:=λw1=>run_makeMap (P:=prog) 173 w1;have HP:Hid (yY ndV ndC cZ 176 75 3 w [] (.returned (.pointer (some ⟨w.heap.size+1,0,none⟩))) (dO w 176)):=
  ⟨_,_,_,rfl,aI ndV _ cZ _ _ 3 w,bl⟩
 generalize yY ndV ndC cZ 176 75 3 w []=post at *;go_enter func132,ntmps132;go_wp2;refine wp_loop_rounds 1 ?_;rw[rounds_succ];go_wp2;exact HP.out
theorem Yk[DecidableEq α](enc:α->Value)(v:α)(p q:Nat)(hv:enc v=.complex .f64 p q)(hg:CxG (enc v))(b c:Nat)(w:World)(hc:w.cell? ⟨b,0,none⟩=some (.complex .f64 p q)):
  Calls prog 85 #[.slice (some ⟨b,0,none⟩) 1 c] w (yY enc (λa=>[enc a]) CxG 172 136 1 w [v]):=by
 have h5:=λw1=>run_makeMap (P:=prog) 169 w1;have h4:=qp hc;have HN:Hid (Calls prog 135 #[.pointer (some ⟨w.heap.size+1,0,none⟩),.complex .f64 p q] (dO w 172) (vZ enc (dO w 172) w.heap.size (w.heap.size+1) w.heap.size (.slice none 0 0) [] v)):=
  tj enc v p q hv (aI enc _ CxG _ _ 1 w) hg (λa ha=>by cases ha) (by simp<;>omega) (by simp)
 have HP:Hid (∀e w',vZ enc (dO w 172) w.heap.size (w.heap.size+1) w.heap.size (.slice none 0 0) [] v e w'->yY enc (λa=>[enc a]) CxG 172 136 1 w [v] (.returned (.pointer (some ⟨w.heap.size+1,0,none⟩))) w'):=by
  rintro e w' ⟨-,sv,h1,h2,-⟩;exact⟨_,_,sv,rfl,h1,Frm.below (a:=w) bl h2 (by simp<;>omega) (λk _ hk=>by rcases hk with rfl|rfl|hk;exact Ud _;exact Uc _;cases hk)⟩
 have h6:(dO w 172).cell? ⟨b,0,none⟩=some (.complex .f64 p q):=by
  rw[←hc];exact Below.cell (B:=w.heap.size) bl h4
 generalize yY enc (λa=>[enc a]) CxG 172 136 1 w [v]=post at *;go_enter func85,ntmps85;go_wp2;refine wp_loop_rounds 2 ?_;rw[rounds_succ]
 go_wp2_with(go_at_call 135;refine HN.out.mono ?_;rintro e w1 hp;have h3:=HP.out e w1 hp;have h0:=hp.1;clear hp;subst h0;generalize List.idxOf v (zz [] v)=ix)
 rw[rounds_succ];go_wp2;exact h3
theorem Yl(v:BA)(hg:v.size<=maxLen)(b c:Nat)(w:World)(hc:w.cell? ⟨b,0,none⟩=some (.string v)):
  Calls prog 133 #[.slice (some ⟨b,0,none⟩) 1 c] w (yY Value.string (λa=>[Value.string a]) oM 223 9 1 w [v]):=by
 have h5:=λw1=>run_makeMap (P:=prog) 221 w1;have h4:=qp hc;have HN:Hid (Calls prog 138 #[.pointer (some ⟨w.heap.size+1,0,none⟩),.string v] (dO w 223) (uj Value.string (dO w 223) w.heap.size (w.heap.size+1) w.heap.size (.slice none 0 0) [] v)):=
  oX Value.string v v rfl (aI Value.string _ oM _ _ 1 w) ⟨v,rfl,hg⟩ (λa ha=>by cases ha) (by simp<;>omega) (by simp)
 have HP:Hid (∀e w',uj Value.string (dO w 223) w.heap.size (w.heap.size+1) w.heap.size (.slice none 0 0) [] v e w'->yY Value.string (λa=>[Value.string a]) oM 223 9 1 w [v] (.returned (.pointer (some ⟨w.heap.size+1,0,none⟩))) w'):=by
  rintro e w' ⟨-,sv,h1,h2,-⟩;exact⟨_,_,sv,rfl,h1,Frm.below (a:=w) bl h2 (by simp<;>omega) (λk _ hk=>by rcases hk with rfl|rfl|hk;exact Ud _;exact Uc _;cases hk)⟩
 have h6:(dO w 223).cell? ⟨b,0,none⟩=some (.string v):=by
  rw[←hc];exact Below.cell (B:=w.heap.size) bl h4
 generalize yY Value.string (λa=>[Value.string a]) oM 223 9 1 w [v]=post at *;go_enter func133,ntmps133;go_wp2;refine wp_loop_rounds 2 ?_;rw[rounds_succ]
 go_wp2_with(go_at_call 138;refine HN.out.mono ?_;rintro e w1 hp;have h3:=HP.out e w1 hp;have h0:=hp.1;clear hp;subst h0;generalize List.idxOf v (zz [] v)=ix)
 rw[rounds_succ];go_wp2;exact h3
