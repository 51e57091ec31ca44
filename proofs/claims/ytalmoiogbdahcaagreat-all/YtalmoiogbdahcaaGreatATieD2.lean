import Derived.Test.YtalmoiogbdahcaaGreatATieC0
open Go.Proofs.Tryz
namespace Go.Proofs.YtalmoiogbdahcaaGreat
set_option maxRecDepth 100000
set_option maxHeartbeats 8000000
open Go.RowKit
theorem fR:xS:=by
 intro U w lo tb L S f who h x hd hr hl h7;have ho:tb<w.heap.size:=qc h.blk;have c1:=qa h.blk (j:=1) rfl;have c2:=qa h.blk (j:=2) rfl;have hp:=λo=>qa (qG h.blk o) (j:=1) rfl;have hf:=λo=>qa (qG h.blk o) (j:=2) rfl;have h6:Hid (∀w1,Below w.heap.size w w1-> ∀(j:Nat) (v:Value),(iD L)[j]?=some v->w1.cell? ⟨tb,j,none⟩=some v):=λw1 hb j v hj=>(h.below hb).cellN rfl hj;have H1:Hid (∀w1,Below w.heap.size w w1->Calls prog 136 #[.pointer (some ⟨L.nt,0,none⟩),.agg #[.string x.k,.string x.n,.string qk]] w1 (YC U lo tb f who L S x w1)):=
  λw1 hb=>Gt (h.below hb) x hd hl (Ue h7 hb.size)
 have H2:Hid (∀w1 w2 L2 S2,Below w.heap.size w w1->NStep 1 U lo tb f who L S w1 L2 S2 w2->x.th∈S2.ths->L2.nr=L.nr-> ∀w3,Below w2.heap.size w2 w3->Calls prog 138 #[.pointer (some ⟨L.nr,0,none⟩),.string x.r] w3 λe w4=> ∃(j:Nat) (L':TL) (S':TS),e=.returned (.int .i64 j)/\Value.complex .f64 (fb (xe S2.ths x.th)) (fb j)=cxN S' x/\Kn S' x/\NStep 1 U lo tb f who L S w L' S' w4):=by
  intro w1 w2 L2 S2 hb hs hx hn w3 h1;have:=Gu (hs.at'.below h1) x hx hr (Ue h7 (Ue hb.size (Ue hs.fr.size h1.size)));rw[hn]at this;refine this.mono ?_;rintro e w4 ⟨j,L',S',he,hc,hk,h4⟩;refine⟨j,L',S',he,hc,hk,?_⟩;have a1:=(RStep.below h hb).toN;have a2:=a1.trans hs;have a3:=a2.trans (RStep.below hs.at' h1).toN;exact a3.trans h4
 have HN:Hid (∀w1 w2 L2 S2,Below w.heap.size w w1->NStep 1 U lo tb f who L S w1 L2 S2 w2-> ∀k,w.heap.size<=k->k<w1.heap.size->w2.heap[k]?=w1.heap[k]?):=λw1 w2 L2 S2 hb hs k hk h9=>NStep.new h hs hk h9;have HC:Hid (∀w1 w2 L2 S2,NStep 1 U lo tb f who L S w1 L2 S2 w2-> ∀(j:Nat) (v:Value),(iD L)[j]?=some v->w2.cell? ⟨tb,j,none⟩=some v):=λw1 w2 L2 S2 hs j v hj=>hs.at'.cellN hs.tie hj;clear h;go_enter func86,ntmps86;go_wp2
 go_region_with(first
  |(go_at_call 137;refine(wU _ _ _ _).mono ?_;rintro e w1 ⟨rfl,h5⟩;have h0:Below w.heap.size w w1:=Below.trans bl (h5.mono (by simp<;>omega));have e1:=h6.out w1 h0 1 _ rfl;have e2:=h6.out w1 h0 2 _ rfl;have h3:w1.heap[w.heap.size]?=some (.cells [.string x.k,.string x.n,.string x.r].toArray 75 (0,0)):=(h5.block w.heap.size (by simp)).trans (qn w [.string x.k,.string x.n,.string x.r] _);have b2:=qa h3 (j:=2) rfl)
  |(go_at_call 136;refine(H1.out _ (by first|exact h0|exact below_drewN h0 _|exact h0.drew)).mono ?_;rintro e w2 ⟨i,L2,S2,rfl,hi,hm,hn,hs⟩;subst hi;have d2:=HC.out _ _ _ _ hs 2 _ rfl;have h2:=(HN.out _ _ _ _ (by first|exact h0|exact below_drewN h0 _|exact h0.drew) hs w.heap.size (Uc _) (qc h3)).trans h3;have hg:=qa h2 (j:=2) rfl)
  |(go_at_call 138;refine(H2.out _ _ _ _ (by first|exact h0|exact below_drewN h0 _|exact h0.drew) hs hm hn _ bl).mono ?_;rintro e w4 ⟨j,L4,S4,rfl,ha,h8,h4⟩))
 all_goals go_wp2
 all_goals go_ret
 all_goals exact⟨L4,S4,congrArg Ending.returned ha,h8,h4⟩
