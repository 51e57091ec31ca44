import Derived.Test.YtalmoiogbdahcaaGreatASrtB
import Derived.Test.YtalmoiogbdahcaaGreatABackA
open Go.Proofs.Tryz
namespace Go.Proofs.YtalmoiogbdahcaaGreat
set_option maxRecDepth 100000
set_option maxHeartbeats 8000000
open Go.RowKit Go.Shelf
structure WhoR(uss:List Nod)(wb nb g n c tb nu mw:Nat)(uo:Option Addr)(uc:Nat)(cx:Value)(cr:Nat)(w:World):Prop where
 w0:w.cell? ⟨wb,0,none⟩=some (.pointer (some ⟨tb,0,none⟩))
 w1:w.cell? ⟨wb,1,none⟩=some (.pointer (some ⟨nb,0,none⟩))
 n1:w.cell? ⟨nb,1,none⟩=some (.slice (some ⟨g,0,none⟩) n c)
 g0:w.cell? ⟨g,0,none⟩=some cx
 t3:w.cell? ⟨tb,3,none⟩=some (.pointer (some ⟨nu,0,none⟩))
 t5:w.cell? ⟨tb,5,none⟩=some (.map (some mw))
 u1:w.cell? ⟨nu,1,none⟩=some (.slice uo uss.length uc)
 us: ∀k u,uss[k]?=some u-> ∃ug,uo=some ⟨ug,0,none⟩/\w.cell? ⟨ug,k * 3,none⟩=some (.string u.k)/\w.cell? ⟨ug,k * 3+1,none⟩=some (.string u.n)/\w.cell? ⟨ug,k * 3+2,none⟩=some (.string u.r)
 lk:(Instr.lookup 180 (.map (some mw)) cx false).run prog w=.ok (.int .u64 cr) w
variable{L:TL}{S:TS}{U xs:List BA}{f:Nod->Option Value}{gone lo mb nb sb tb wb:Nat}{met:List Nod}{sv:Value}{ts:List (Nod×Nod)}{w:World}{who:Nod->Nat}{x0:Nod}
theorem Gz(h:WA U ts xs lo tb sb f who wb nb mb L S sv met gone w)(h0:met[0]?=some x0){g c:Nat}{uo:Option Addr}{uc:Nat}(h4:sv=.slice (some ⟨g,0,none⟩) met.length c)(h3:L.su=.slice uo S.uss.length uc):
  WhoR S.uss wb nb g met.length c tb L.nu L.mw uo uc (cxN S x0) (who x0) w:=by
 have h5:0<met.length:=(OE.1 h0).1;obtain⟨g',c',h1,h2⟩:=xj h.m.num.row h5;have eg:g=g':=by rw[h4]at h1;have:=(Value.slice.inj h1).1;injection this with this;injection this
 subst eg;have n1:=qa h.m.num.blk (j:=1) rfl;rw[h4]at n1;have u1:=qa h.ta.t.us.blk (j:=1) rfl;rw[h3]at u1;refine⟨qa h.blk (j:=0) rfl,qa h.blk (j:=1) rfl,n1,h2 0 _ ?_,qa h.ta.t.blk (j:=3) rfl,qa h.ta.t.blk (j:=5) rfl,u1,λk u hu=>?_,h.ta.who (h.m.kn x0 (OZ h0))⟩
 ·rw[nN,OF,h0];rfl
 ·obtain⟨ug,uc',he,hc⟩:=xj h.ta.t.us.row (Uf (Um _) (OE.1 hu).1)
  rw[h3]at he;obtain⟨q1,q2,q3⟩:=KE hu;exact⟨ug,(Value.slice.inj he).1,hc _ _ q1,hc _ _ q2,hc _ _ q3⟩
def uw(uss:List Nod)(cr k:Nat):List BA:=((List.range k).filterMap λi=>if cr.testBit i then(uss[i]?).map thT else none)
variable{cr k:Nat}{u:Nod}{uss:List Nod}
theorem Kl(hu:uss[k]?=some u)(h:cr.testBit k=true):uw uss cr (k+1)=uw uss cr k++[thT u]:=by
 unfold uw;rw[List.range_succ,List.filterMap_append];simp[h,hu]
theorem GA(h:cr.testBit k=false):uw uss cr (k+1)=uw uss cr k:=by
 unfold uw;rw[List.range_succ,List.filterMap_append];simp[h]
theorem fY(uss:List Nod)(cr k:Nat):(uw uss cr k).length<=k:=by
 unfold uw;have:=List.length_filterMap_le (λi=>if cr.testBit i then(uss[i]?).map thT else none) (List.range k)
 rw[List.length_range]at this;exact this
theorem Km(uss:List Nod)(cr:Nat)(s:BA):s∈uw uss cr uss.length↔ ∃i u,uss[i]?=some u/\cr.testBit i=true/\thT u=s:=by
 unfold uw;rw[List.mem_filterMap]
 constructor
 ·rintro⟨i,-,h⟩
  split at h
  ·next hb=>
   obtain⟨u,hu,e⟩:=Un.1 h;exact⟨i,u,hu,hb,e⟩
  ·cases h
 ·rintro⟨i,u,hu,hb,rfl⟩
  refine⟨i,List.mem_range.2 (OE.1 hu).1,?_⟩;rw[if_pos hb,hu];rfl
theorem Xf(hi: ∀(i j:Nat) (u v:Nod),uss[i]?=some u->uss[j]?=some v->thT u=thT v->i=j)(cr k:Nat):(uw uss cr k).Nodup:=by
 unfold uw;refine List.Pairwise.filterMap _ (R:=λa b:Nat=>a≠b) ?_ List.nodup_range;intro a a' h1 b hb b' h0 e;split at hb
 ·split at h0
  ·obtain⟨u,hu,e1⟩:=Un.1 hb
   obtain⟨v,hv,e2⟩:=Un.1 h0;exact h1 (hi a a' u v hu hv (by rw[e1,e2,e]))
  ·cases h0
 ·cases hb
def am(wb nb mb:Nat)(L:TL)(sv:Value)(k:Nat):Prop:=nP wb nb mb L sv k\/k=L.mw
structure WhoT(ts:List (Nod×Nod))(xs:List BA)(uss:List Nod)(x0:Nod)(X:Nat->Prop)(w:World)(wb nb g n c tb nu mw:Nat)(uo:Option Addr)(uc:Nat)(cx:Value)(cr:Nat)(w2:World):Prop where
 r: ∀wx,Below w2.heap.size w2 wx->WhoR uss wb nb g n c tb nu mw uo uc cx cr wx
 sm:cr<2 ^ 64
 bit: ∀i,i<64-> ∀u,uss[i]?=some u->(cr.testBit i=true↔Std ts (qi xs) u x0)
 fr:Frm X w w2
 nl:n<=32000000
 np:0<n
theorem YK(HW:Hid xh)(cov:Cov U xs)(h:WA U ts xs lo tb sb f who wb nb mb L S sv met gone w)(hg:Gone ts xs x0 met gone)
  (hk: ∀y,who y<2 ^ 64) (hp: ∀y:Nod,y.isTh=true-> ∀i,i<64->((who y).testBit i=true↔S.uss[i]?=some y)) (ho: ∀y:Nod,y.isTh=false->who y=0):
  Calls prog 87 #[.pointer (some ⟨wb,0,none⟩)] w λe w1=>e=.returned (.tuple #[])/\ ∃g n c,w1.cell? ⟨wb,0,none⟩=some (.pointer (some ⟨tb,0,none⟩))/\w1.cell? ⟨wb,1,none⟩=some (.pointer (some ⟨nb,0,none⟩))/\w1.cell? ⟨nb,1,none⟩=some (.slice (some ⟨g,0,none⟩) n c)/\
   Hid (∀w1',Below w1.heap.size w1 w1'->Calls prog 129 #[.pointer (some ⟨tb,0,none⟩),.slice (some ⟨g,0,none⟩) n c] w1' λe w2=>e=.returned (.tuple #[])/\ ∃nu mw uo uc cx cr,WhoT ts xs S.uss x0 (am wb nb mb L sv) w wb nb g n c tb nu mw uo uc cx cr w2):=by
 refine(lZ (λh x hx=>dT HW cov h hx) h hg).mono ?_;rintro e w1 ⟨he,L',S',sv',met',hs,h0⟩;have h9:0<met'.length:=(OE.1 h0.first).1
 obtain⟨g,c,h2,-⟩:=xj hs.at'.m.num.row h9;have n1:=qa hs.at'.m.num.blk (j:=1) rfl;rw[h2]at n1;refine⟨he,g,met'.length,c,qa hs.at'.blk (j:=0) rfl,qa hs.at'.blk (j:=1) rfl,n1,?_⟩;intro w1' hd;have h1:=hs.trans (WStep.below hs.at' hd);have hA:=h1.at';have h3:yz w1' (.slice (some ⟨g,0,none⟩) met'.length c) (met'.map (cxN S')):=by
  have:=hA.m.num.row;rw[h2,nN]at this;exact vw (by rw[OM];exact this)
 have hu:S'.uss=S.uss:=h1.uss;refine(Zm HW cov hA.ta h3 hA.m.kn hA.m.num.nd hA.nodes ?_ ?_ hk (λy hy i hi=>by rw[hu];exact hp y hy i hi) ho).mono ?_
 ·intro x hx y hy
  exact(h0.all y).2 (Rch.on ((h0.all x).1 hx) hy)
 ·intro g' n' c' e'
  obtain⟨-,-,cur,q⟩:=qf hA.m.num.row g' (by rw[h2,e'];rfl)
  exact⟨cur,q⟩
 ·rintro e2 w2 ⟨hf,who',L2,S2,hG,h4,h6⟩
  have hM:=hA.m.gstep hA.ta hG;have hc:=hA.walk_not;have h5:w2.heap[wb]?=some (.cells [Value.pointer (some ⟨tb,0,none⟩),.pointer (some ⟨nb,0,none⟩),.int .i64 met'.length].toArray 139 (0,0)):=by
   rw[hG.fr.block wb (qc hA.blk) ?_]
   ·exact hA.blk
   ·rintro(e|e)
    ·exact hc.1 e
    ·obtain⟨m,hm,-⟩:=hA.ta.t.wh
     obtain⟨es,cl,q,-⟩:=hm;rw[←e,hA.blk]at q;injection q with q;cases q
  have h8:WA U ts xs lo tb sb f who' wb nb mb L2 S2 sv' met' met'.length w2:=⟨hG.at',hM,h5,hA.nodes,Uc _⟩;obtain⟨uo,uc,hn⟩:=qz h8.ta.t.us.row;have ha:S2.uss=S.uss:=hG.uss.trans hu;have h7:=h1.loc;refine⟨hf,L2.nu,L2.mw,uo,uc,cxN S2 x0,who' x0,⟨λwx hb=>?_,h4 x0,λi hi u hl=>?_,?_,vM hA.ta.t.ok hA.m.num.nd hA.m.kn,h9⟩⟩
  ·rw[←ha]
   exact Gz (h8.below hb) h0.first h2 hn
  ·exact h6 x0 (OZ h0.first) i hi u (by rw[hu];exact hl)
  ·refine(h1.fr.mono λ_ _ e=>Or.inl e).trans hG.fr λj hj e=>?_
   rcases e with(e|e|e)|e
   ·rw[h7]at e;exact Or.inl (Or.inl (Or.inl e))
   ·rw[h7]at e;exact Or.inl (Or.inl (Or.inr (Or.inl e)))
   ·rcases h1.ownR j e with e|e
    ·exact Or.inl (Or.inl (Or.inr (Or.inr e)))
    ·omega
   ·rw[h7]at e;exact Or.inr e
structure WhoL(uss:List Nod)(cr:Nat)(w2:World)(k:Nat)(v:Value)(wr:World):Prop where
 b:Below w2.heap.size w2 wr
 row:wr.ownsRow w2.heap.size 9 1 v (uw uss cr k).length (qg (uw uss cr k))
theorem WhoL.next{w2:World}{v:Value}{wr:World}(h:WhoL uss cr w2 k v wr)(hk:k<=50)(hu:uss[k]?=some u)(hb:cr.testBit k=true){w1:World}(h0:Below wr.heap.size wr w1):
  ∃x c w3,(Builtin.append_ #[28,28] 28 #[v,.slice (some ⟨w1.heap.size,0,none⟩) 1 1]).run prog (w1.alloc (.cells #[.string (thT u)] 9))=.ok (.slice x ((uw uss cr k).length+1) c) w3/\WhoL uss cr w2 (k+1) (.slice x ((uw uss cr k).length+1) c) w3:=by
 have o1:w1.ownsRow w2.heap.size 9 1 v (uw uss cr k).length (qg (uw uss cr k)):=qF h.row λg hg=>h0.block g (qf h.row g hg).1;have hl:=fY uss cr k;have z1:=h.b.size;have z2:=h0.size;obtain⟨v',w3,hr,ho,hg,hn⟩:=pr underlying28 Tryz.infoStr rfl (by decide) (by decide) w1 w2.heap.size v _ _ [.string (thT u)] rfl (by intro u hu;simp at hu;rw[hu];rfl) o1 (by omega) (by omega)
 obtain⟨x,c,rfl⟩:=qz ho;refine⟨x,c,w3,hr,(h.b.trans (h0.mono z1)).grown hg (by omega) (λj hj=>(qf o1 j hj).2.1),?_⟩
 rw[Kl hu hb,OK];have e:qg (uw uss cr k++[thT u])=qg (uw uss cr k)++[.string (thT u)]:=by unfold qg;rw[OR];rfl
 rw[e];exact ho
theorem rX(HW:Hid xh)(cov:Cov U xs)(h:WA U ts xs lo tb sb f who wb nb mb L S sv met gone w)(hg:Gone ts xs x0 met gone)
  (ho: ∀y,who y<2 ^ 64) (hv: ∀y:Nod,y.isTh=true-> ∀i,i<64->((who y).testBit i=true↔S.uss[i]?=some y)) (hl: ∀y:Nod,y.isTh=false->who y=0) (hn:S.uss.length<=50) (h9: ∀u∈S.uss,u.k.size+1+u.n.size<=maxLen) (h0: ∀(i j:Nat) (u v:Nod),S.uss[i]?=some u->S.uss[j]?=some v->thT u=thT v->i=j):
  Calls prog 83 #[.pointer (some ⟨wb,0,none⟩)] w λe w'=> ∃zs v,e=.returned v/\zy zs/\(∀s,s∈zs↔ ∃u∈S.uss,Std ts (qi xs) u x0/\thT u=s)/\zs.length<=50/\w'.ownsRow w.heap.size 9 1 v zs.length (qg zs)/\Frm (am wb nb mb L sv) w w':=by
 have h7:=YK HW cov h hg ho hv hl;obtain⟨uss,h3⟩: ∃uss,S.uss=uss:=⟨_,rfl⟩;rw[h3]at hn h9 h0 h7 ⊢;have hC:Hid (∀u∈uss,u.k.size+1+u.n.size<=maxLen):=h9;have hy:Hid (∀(i j:Nat) (u v:Nod),uss[i]?=some u->uss[j]?=some v->thT u=thT v->i=j):=h0;generalize am wb nb mb L sv=X at *;obtain⟨nn,ha⟩: ∃nn,uss.length=nn:=⟨_,rfl⟩;have h4:Hid (uss.length=nn):=ha;rw[ha]at hn;clear h hg ho hv hl h9 h0 h3 ha HW cov;go_enter func83,ntmps83
 go_wp2_with(go_at_call 87;refine h7.mono ?_;rintro e w1 ⟨rfl,g,n,c,c0,c1,n1,hf⟩;clear h7)
 go_cut []from 9 to 20 (λwx=> ∃nu mw uo uc cx cr,WhoT ts xs uss x0 X w wb nb g n c tb nu mw uo uc cx cr wx)
 case first=>
  go_region_with(go_at_call 129;refine(hf.out _ bl).mono ?_;rintro e w2 ⟨rfl,hT⟩;have HT:Hid (∃nu mw uo uc cx cr,WhoT ts xs uss x0 X w wb nb g n c tb nu mw uo uc cx cr w2):=hT;clear hT)
  all_goals (go_wp2_with fail;go_meet)
  all_goals exact HT.out
 case rest=>
  obtain⟨nu,mw,uo,uc,cx,cr,hT⟩:=hcut;have HT:Hid (WhoT ts xs uss x0 X w wb nb g n c tb nu mw uo uc cx cr wc):=hT;have hI:=hT.nl;have hK:=hT.np;obtain⟨d0,d1,dn,dg,d3,d5,du,-,-⟩:=hT.r wc (Ou _ _);rw[h4.out]at du;clear hT hf c0 c1 n1;go_wp2;have ht:Hid (WhoL uss cr wc 0 (.slice none 0 0) wc):=⟨Ou _ _,World.ownsRow_nil _ _ _ _⟩
  go_loopw [4,41] (λv i wr=> ∃(k:Nat) (x:Option Addr) (m c1:Nat),v=.slice x m c1/\k<=nn/\i=.int .i64 k/\WhoL uss cr wc k (.slice x m c1) wr) (λ_ i _=>nn-(intOf i).toNat)
  case atStart=>exact⟨0,none,0,0,rfl,Um _,rfl,ht.out⟩
  case round=>
   obtain⟨k,x,m,c1,rfl,hk,rfl,hL⟩:=hrel;have HL:Hid (WhoL uss cr wc k (.slice x m c1) wr):=hL;clear hL ht;by_cases hlt:k<nn
   ·obtain⟨u,hu⟩: ∃u,uss[k]?=some u:=⟨_,OC (by have:=h4.out;omega)⟩
    obtain⟨-,-,-,-,-,-,-,fus,-⟩:=HT.out.r wr HL.out.b;obtain⟨ug,rfl,q1,q2,q3⟩:=fus k u hu;have h2:Below wr.heap.size wr (wr.alloc (.cells #[.string u.k,.string u.n,.string u.r] 75)):=bl;obtain⟨f0,-,-,-,-,f5,-,-,flk⟩:=HT.out.r _ (HL.out.b.trans (h2.mono HL.out.b.size));have h5:=Xd cr k HT.out.sm (by omega) (wr.alloc (.cells #[.string u.k,.string u.n,.string u.r] 75))
    have hx:=g9 u (hC.out u (OZ hu)) (wr.alloc (.cells #[.string u.k,.string u.n,.string u.r] 75));clear fus;by_cases hb:cr.testBit k=true
    ·rw[hb]at h5
     obtain⟨x',c',w3,hr,hd⟩:=HL.out.next (by omega) hu hb (w1:=(wr.alloc (.cells #[.string u.k,.string u.n,.string u.r] 75)).alloc (.cells #[.string u.k,.string u.n,.string u.r] 75)) bl
     have hz:((wr.alloc (.cells #[.string u.k,.string u.n,.string u.r] 75)).alloc (.cells #[.string u.k,.string u.n,.string u.r] 75)).heap.size=wr.heap.size+1+1:=by simp
     rw[hz]at hr;have hc:Hid (WhoL uss cr wc (k+1) (.slice x' ((uw uss cr k).length+1) c') w3):=hd;generalize (uw uss cr k).length+1=mm at *;clear hd hz h2 hu;generalize thT u=T at *
     go_wp2_with(first|(go_at_call 130;refine h5.mono ?_;rintro e w4 ⟨rfl,hq⟩;subst w4)|(go_at_call 94;refine hx.mono ?_;rintro e w4 ⟨rfl,hq⟩;subst w4)|(at_builtin;refine qo rfl (.tmp 57) (.tmp 60) 28 rfl _ _ _ rfl rfl hr ?_))
     go_roundw
     case rel=>exact⟨k+1,x',mm,c',rfl,by omega,by go_num,hc.out⟩
     case measure=>simp[intOf];omega
    ·have hb:cr.testBit k=false:=by simpa using hb
     rw[hb]at h5;have hc:Hid (WhoL uss cr wc (k+1) (.slice x m c1) (wr.alloc (.cells #[.string u.k,.string u.n,.string u.r] 75))):=by
      refine⟨HL.out.b.trans (h2.mono HL.out.b.size),?_⟩;rw[GA hb];exact qF HL.out.row λg hg=>h2.block g (qf HL.out.row g hg).1
     clear h2 hu hx
     go_wp2_with(go_at_call 130;refine h5.mono ?_;rintro e w4 ⟨rfl,hq⟩;subst w4)
     go_roundw
     case rel=>exact⟨k+1,x,m,c1,rfl,by omega,by go_num,hc.out⟩
     case measure=>simp[intOf];omega
   ·obtain rfl:k=nn:=by omega
    have hm:m=(uw uss cr k).length:=by
     obtain⟨x2,c2,e⟩:=qz HL.out.row;exact(Value.slice.inj e).2.1
    have hA:Hid (Calls prog 131 #[.slice x m c1] wr λe w'=>e=.returned (.tuple #[])/\ ∃zs v,(.slice x m c1:Value)=v/\zy zs/\(∀s,s∈zs↔ ∃u∈uss,Std ts (qi xs) u x0/\thT u=s)/\zs.length<=50/\w'.ownsRow w.heap.size 9 1 v zs.length (qg zs)/\Frm X w w'):=by
     have hB:=fY uss cr k;refine(J7 wr wc.heap.size _ _ HL.out.row (Xf hy.out cr k) (by omega)).mono ?_
     rintro e w' ⟨he,zs,h8,hJ,hD,h6,hE⟩;refine⟨he,zs,_,rfl,hD,λs=>?_,by omega,xM h6 HT.out.fr.size,?_⟩
     ·rw[h8 s,←h4.out,Km]
      constructor
      ·rintro⟨i,u,hu,hb,e⟩
       have hi:=(OE.1 hu).1;have:=h4.out;exact⟨u,OZ hu,(HT.out.bit i (by omega) u hu).1 hb,e⟩
      ·rintro⟨u,hu,hs,e⟩
       obtain⟨i,hi⟩:=OX.1 hu;have hF:=(OE.1 hi).1;have:=h4.out;exact⟨i,u,hi,(HT.out.bit i (by omega) u hi).2 hs,e⟩
     ·have hz:=HT.out.fr.size
      have hG:=HL.out.b.size;refine(HT.out.fr.trans (Frm.of_below (X:=λ_=>False) HL.out.b) (λ_ _ e=>False.elim e)).trans (Frm.of_grown hE (X:=λj=>(Value.slice x m c1).ownBlock=some j) (λj e=>e)) λj hj e=>?_;have:=(qf HL.out.row j e).2.1;omega
    clear hlt hm
    go_wp2_with(go_at_call 131;refine hA.out.mono ?_;rintro e w3 ⟨rfl,hp⟩)
    go_ret;obtain⟨zs,v,rfl,h1⟩:=hp;exact⟨zs,_,rfl,h1⟩
theorem fZ(w:World)(base:Nat)(v:Value)(zs:List BA)(x:BA)(h0:w.ownsRow base 9 1 v zs.length (qg zs))(hl:zs.length<=1000):
  Calls prog 143 #[v,.string x] w λe w'=>w'=w/\ ∃i:Int,e=.returned (.int .i64 i)/\(0<=i↔x∈zs)/\ -1<=i:=by
 have HC:Hid (∀k z,zs[k]?=some z-> ∃g,(∃c,v=.slice (some ⟨g,0,none⟩) zs.length c)/\w.cell? ⟨g,k,none⟩=some (.string z)):=by
  intro k z hz;obtain⟨g,c,e,hc⟩:=xj h0 (Uf (Um _) (OE.1 hz).1);refine⟨g,⟨c,e⟩,hc k _ ?_⟩;unfold qg;rw[OF,hz];rfl
 obtain⟨o,c,rfl⟩:=qz h0;obtain⟨nn,h1⟩: ∃nn,zs.length=nn:=⟨_,rfl⟩;have h2:Hid (zs.length=nn):=h1;rw[h1]at hl HC ⊢;clear h0 h1;go_enter func143,ntmps143;go_wp2
 go_loop [8] (λi=> ∃k:Nat,i=.int .i64 k/\k<=nn/\ ∀(j:Nat) (z:BA),j<k->zs[j]?=some z->x≠z) (λi=>nn-(intOf i).toNat)
 case atStart=>exact⟨0,rfl,Um _,λj z hj=>by omega⟩
 case round=>
  obtain⟨k,rfl,hk,hI⟩:=hrel;have HI:Hid (∀(j:Nat) (z:BA),j<k->zs[j]?=some z->x≠z):=hI;clear hI;by_cases hlt:k<nn
  ·obtain⟨z,hz⟩: ∃z,zs[k]?=some z:=⟨_,OC (by have:=h2.out;omega)⟩
   obtain⟨g,⟨c',e⟩,hc⟩:=HC.out k z hz;have e1:=(Value.slice.inj e).1;subst e1;have HZ:Hid (zs[k]?=some z):=hz;clear e hz;by_cases hx:x=z
   ·subst hx
    go_wp2;go_ret;exact⟨rfl,(k:Int),rfl,⟨λ_=>OZ HZ.out,λ_=>by omega⟩,by omega⟩
   ·have h4:(x.toList==z.toList)=false:=by rw[jn];exact Uo hx
    go_wp2
    go_round
    case rel=>
     refine⟨k+1,by go_num,by omega,λj z' hj h3=>?_⟩
     by_cases ej:j=k
     ·subst ej
      have:=HZ.out.symm.trans h3;injection this with this;rw[←this];exact hx
     ·exact HI.out j z' (by omega) h3
    case measure=>simp[intOf];omega
  ·obtain rfl:k=nn:=by omega
   go_wp2;go_ret;refine⟨rfl,-1,rfl,⟨λh=>absurd h (by decide),λhm=>?_⟩,by decide⟩
   obtain⟨j,hj⟩:=OX.1 hm;exact absurd rfl (HI.out j x (by have:=(OE.1 hj).1;have:=h2.out;omega) hj)
theorem l6(w:World)(base:Nat)(v:Value)(zs:List BA)(x:BA)(h0:w.ownsRow base 9 1 v zs.length (qg zs))(hl:zs.length<=1000):
  Calls prog 93 #[v,.string x] w λe w'=> ∃b,e=.returned (.bool b)/\(b=true↔x∈zs)/\w'=w:=by
 have hi:=fZ w base v zs x h0 hl;obtain⟨o,c,rfl⟩:=qz h0;clear h0 hl;generalize zs.length=nn at *;go_enter func93,ntmps93
 go_wp2_with(go_at_call 143;refine hi.mono ?_;rintro e w1 ⟨h2,i,rfl,h1,h3⟩;subst w1)
 go_ret;exact⟨_,rfl,by rw[←h1];simp,rfl⟩
theorem ed(HW:Hid xh)(cov:Cov U xs)(h:WA U ts xs lo tb sb f who wb nb mb L S sv met gone w)(hg:Gone ts xs x0 met gone)
  (h9: ∀y,who y<2 ^ 64) (hi: ∀y:Nod,y.isTh=true-> ∀i,i<64->((who y).testBit i=true↔S.uss[i]?=some y)) (hc: ∀y:Nod,y.isTh=false->who y=0) (h8:S.uss.length<=50) (hd: ∀u∈S.uss,u.k.size+1+u.n.size<=maxLen) (h4: ∀(i j:Nat) (u v:Nod),S.uss[i]?=some u->S.uss[j]?=some v->thT u=thT v->i=j)
  (y:Nod) (hy:y.k.size+1+y.n.size<=maxLen):
  Calls prog 48 #[.pointer (some ⟨wb,0,none⟩),.agg #[.string y.k,.string y.n,.string y.r]] w λe w'=> ∃b,e=.returned (.bool b)/\(b=true↔ ∃u∈S.uss,Std ts (qi xs) u x0/\thT u=thT y)/\Frm (am wb nb mb L sv) w w':=by
 have hk:Hid (∀w1,Below w.heap.size w w1->w1.heap[w.heap.size]?=some (.cells [Value.string y.k,.string y.n,.string y.r].toArray 75 (0,0))->Calls prog 83 #[.pointer (some ⟨wb,0,none⟩)] w1 λe w2=> ∃o n c,e=.returned (.slice o n c)/\w2.cell? ⟨w.heap.size,0,none⟩=some (.string y.k)/\w2.cell? ⟨w.heap.size,1,none⟩=some (.string y.n)/\w2.cell? ⟨w.heap.size,2,none⟩=some (.string y.r)/\Hid (∀w3,Below w2.heap.size w2 w3->Calls prog 93 #[.slice o n c,.string (thT y)] w3 λe w4=> ∃b,e=.returned (.bool b)/\(b=true↔ ∃u∈S.uss,Std ts (qi xs) u x0/\thT u=thT y)/\Frm (am wb nb mb L sv) w w4)):=by
  intro w1 h6 h2;refine(rX HW cov (h.below h6) hg h9 hi hc h8 hd h4).mono ?_;rintro e w2 ⟨zs,v,he,-,h5,hn,h3,ha⟩;obtain⟨o,c,rfl⟩:=qz h3;have h0:w2.heap[w.heap.size]?=some (.cells [Value.string y.k,.string y.n,.string y.r].toArray 75 (0,0)):=by
   rw[ha.block _ (qc h2) λe=>?_]
   ·exact h2
   have h1:=h.below h6;rcases e with(e|e|e)|e
   ·rcases h1.ta.t.rl.kind e h2 with e|e<;>revert e<;>decide
   ·rcases h1.m.num.kind e h2 with e|e<;>revert e<;>decide
   ·have e:w.heap.size=wb:=e
    have:=qc h.blk;omega
   ·have e:w.heap.size=L.mw:=e
    have:=h.ta.maps_lt (k:=L.mw) (by simp);omega
  refine⟨o,_,c,he,qa h0 (j:=0) rfl,qa h0 (j:=1) rfl,qa h0 (j:=2) rfl,?_⟩
  ·intro w3 h7
   refine(l6 w3 w1.heap.size _ zs (thT y) (qF h3 λg hg=>h7.block g (qf h3 g hg).1) (by omega)).mono ?_
   rintro e w4 ⟨b,rfl,hb,hm⟩;subst w4;refine⟨b,rfl,by rw[hb,h5],?_⟩
   exact((Frm.of_below h6).trans ha (λ_ _ e=>e)).trans (Frm.of_below (X:=λ_=>False) h7) (λ_ _ e=>False.elim e)
 have hl:=λw1=>g9 y hy w1;generalize am wb nb mb L sv=X at *;clear h hg h9 hi hc h8 hd h4 hy cov HW;go_enter func48,ntmps48;go_wp2;have hA:(w.alloc (.cells #[.string y.k,.string y.n,.string y.r] 75)).drew.heap[w.heap.size]?=some (.cells [Value.string y.k,.string y.n,.string y.r].toArray 75 (0,0)):=qn w [Value.string y.k,.string y.n,.string y.r] _
 go_region_with(first|(go_at_call 83;refine(hk.out _ bl hA).mono ?_;rintro e w2 ⟨o,n,c,rfl,k0,k1,k2,hj⟩)|(go_at_call 94;refine(hl _).mono ?_;rintro e w3 ⟨rfl,ho⟩;subst w3)|(go_at_call 93;refine(hj.out _ bl).mono ?_;rintro e w4 ⟨b,rfl,hb,hf⟩))
 all_goals go_wp2
 all_goals go_ret
 all_goals exact⟨b,rfl,hb,hf⟩
