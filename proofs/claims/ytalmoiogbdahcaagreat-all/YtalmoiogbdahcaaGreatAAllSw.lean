import Derived.Test.YtalmoiogbdahcaaGreatAAllM
open Go.Proofs.Tryz
namespace Go.Proofs.YtalmoiogbdahcaaGreat
set_option maxRecDepth 100000
set_option maxHeartbeats 8000000
open Go.RowKit Go.Shelf
def yq(B:Nat)(V:Int)(p:PA)(w:World)(e:Ending)(w':World):Prop:=e=.returned (.bool true)/\PaP B (V+1) p w w'
variable{e:Ending}{r:Sum (Nat×Int) (List BA)}{w w':World}
theorem GK{b:Nat}{g:Rg}(h:uO w b g r e w'):e=.returned (.tuple #[.int .i64 (wrV g.version r),.int .i64 (wrA r),.int .i64 (wrE r)]):=by
 unfold uO at h;rcases r with⟨i,f⟩|ys
 ·exact h.1
 ·dsimp only at h
  unfold wrV wrA wrE;split at h
  ·rename_i h5;dsimp only;rw[if_pos h5,if_pos h5];exact h.1
  ·rename_i h5;dsimp only;rw[if_neg h5,if_neg h5];obtain⟨v,h,-⟩:=h;exact h
variable{B:Nat}{V:Int}{p:PA}{w3:World}
theorem ka(h:PairA B V p w)(c3:Frm (λk=>k=p.gb) w w3):DocS B p w3:=h.doc.keep h.mem λk hk=>c3.block k (h.klt k hk) (h.dis k hk).2.2.1
variable{gb:Nat}{w1 w2:World}
theorem nJ{g:Pg}(hb:Below w.heap.size w w1)(hp:uI w1 gb g r e w2):Frm (λk=>k=gb) w w2:=
 (Frm.of_below hb).trans (Frm.of_grown (X:=λk=>k=gb) hp.1 λk e=>by injection e with e;exact e.symm) λ_ _ e=>e
variable{ga ge gv:Int}{res:Sum (Nat×Int) (List BA)}{v:Value}{xs:List BA}
theorem nK(h:PairA B V p w)(h1:Below w.heap.size w w1)(ht:XV w1 v xs p.gb)(hl:xs.length<=maxLen)(h2: ∀x∈xs,x.size<=140737488355328)(h0:wrC p.g.cl (qh p.xs) p.now xs=res)(he:wrV p.g.ver res=gv/\wrA res=ga/\wrE res=ge):
  Calls prog 24 #[.pointer (some ⟨p.gb,0,none⟩),v] w1 λe w2=>e=.returned (.tuple #[.int .i64 gv,.int .i64 ga,.int .i64 ge])/\uI w1 p.gb p.g res e w2:=by
 obtain⟨rfl,rfl,rfl⟩:=he;subst h0;exact((h.below h1).gw ht hl h2).mono λe w2 hp=>⟨GO hp,hp⟩
theorem nL(h:PairA B V p w)(hV:V+1<=4611686018427387904)(hB:B<=w.heap.size)(h6:Below w.heap.size w w1){e2:Ending}(h0:wrC p.g.cl (qh p.xs) p.now xs=res)(he:wrV p.g.ver res=gv/\wrA res=ga/\wrE res=ge)
  (h3:uI w1 p.gb p.g res e2 w2) (h1:w2.heap.size<=w3.heap.size) (h4: ∀k,k<w2.heap.size->(k<w.heap.size\/w1.heap.size<=k)->w3.heap[k]?=w2.heap[k]?) (c3:Frm (λk=>k=p.gb) w w3) (ht:GP w3 v xs) (hl:xs.length<=maxLen) (h5: ∀x∈xs,x.size<=140737488355328):
  Calls prog 35 #[.pointer (some ⟨p.rb,0,none⟩),v] w3 λe w4=>e=.returned (.tuple #[.int .i64 gv,.int .i64 ga,.int .i64 ge])/\yq B V p w (.returned (.bool true)) w4:=by
 obtain⟨rfl,rfl,rfl⟩:=he;have:=h.rw (ka h c3) ht hl h5;rw[h0]at this;refine this.mono ?_;intro e w' h2;exact⟨by rw[GK h2,h.ver],rfl,KN h hV h0 h6 h3 h1 h4 c3 h2 hB⟩
theorem tT(h:PairA B V p w)(hV:V+1<=4611686018427387904)(hB:B<=w.heap.size):
  Calls prog 76 #[.pointer (some ⟨p.pb,0,none⟩),.slice none 0 0] w (yq B V p w):=by
 have c0:=qa h.doc.pair (j:=0) rfl;obtain⟨res,h1⟩: ∃res,wrC p.g.cl (qh p.xs) p.now []=res:=⟨_,rfl⟩;obtain⟨gv,h6⟩: ∃x,wrV p.g.ver res=x:=⟨_,rfl⟩;obtain⟨ga,h7⟩: ∃x,wrA res=x:=⟨_,rfl⟩;obtain⟨ge,h5⟩: ∃x,wrE res=x:=⟨_,rfl⟩;have h3:Below w.heap.size w w.drew:=(Ou _ _).drew;have h9:=nK h h3 (xs:=[]) (Or.inl ⟨rfl,rfl⟩) (Um _) (λx hx=>absurd hx O4) h1 ⟨h6,h7,h5⟩;have hc:Hid (∀w2 e2,uI w.drew p.gb p.g res e2 w2->w2.cell? ⟨p.pb,1,none⟩=some (.pointer (some ⟨p.rb,0,none⟩))/\Calls prog 35 #[.pointer (some ⟨p.rb,0,none⟩),.slice none 0 0] w2 λe w'=>e=.returned (.tuple #[.int .i64 gv,.int .i64 ga,.int .i64 ge])/\yq B V p w (.returned (.bool true)) w'):=by
  intro w2 e2 h4;have c2:Frm (λk=>k=p.gb) w w2:=nJ h3 h4;exact⟨qa (ka h c2).pair (j:=1) rfl,nL h hV hB h3 h1 ⟨h6,h7,h5⟩ h4 (Uc _) (λk _ _=>rfl) c2 (Or.inl (Or.inl ⟨rfl,rfl⟩)) (Um _) (λx hx=>absurd hx O4)⟩
 have ha:Hid (Calls prog 24 #[.pointer (some ⟨p.gb,0,none⟩),.slice none 0 0] w.drew _):=h9;have e1:(gv==gv)=true:=by simp
 have e2:(ga==ga)=true:=by simp
 have e3:(ge==ge)=true:=by simp
 clear h6 h7 h5 h hV hB h3 h9 h1;go_enter func76,ntmps76
 go_wp2_with(go_at_call 68;refine(gp w).mono ?_;rintro e w1 ⟨rfl,rfl⟩)
 go_region_with(go_at_call 24;refine ha.out.mono ?_;rintro e w2 ⟨rfl,h4⟩;obtain⟨hd,h8⟩:=hc.out w2 _ h4;have hb:Hid (Calls prog 35 #[.pointer (some ⟨p.rb,0,none⟩),.slice none 0 0] w2 _):=h8;clear h8)
 all_goals go_wp2_with(first|(go_at_call 69;refine(oP _).mono ?_;rintro e w3 ⟨rfl,rfl⟩)|(go_at_call 35;refine hb.out.mono ?_;rintro e w4 ⟨rfl,h0⟩;have h2:Hid (yq B V p _ (.returned (.bool true)) w4):=h0;clear h0))
 go_ret;exact h2.out
theorem rk(h:PairA B V p w)(hV:V+1<=4611686018427387904)(hB:B<=w.heap.size)(b off cap:Nat)(xs:List BA)(hc: ∀i x,xs[i]?=some x->w.cell? ⟨b,off+i,none⟩=some (.string x))(hb:b<B)(hl:xs.length<=8796093022208)(hf: ∀x∈xs,x.size<=140737488355328):
  Calls prog 76 #[.pointer (some ⟨p.pb,0,none⟩),.slice (some ⟨b,off,none⟩) xs.length cap] w (yq B V p w):=by
 have ho:xs.length<=maxLen:=by unfold maxLen;omega
 have h9:p.gb<w.heap.size:=qc h.kd.pg;have hm:b≠w.heap.size:=by omega
 have hn:b≠p.gb:=by have:=h.kd.gB;omega
 obtain⟨res,h2⟩: ∃res,wrC p.g.cl (qh p.xs) p.now xs=res:=⟨_,rfl⟩;obtain⟨gv,ha⟩: ∃x,wrV p.g.ver res=x:=⟨_,rfl⟩;obtain⟨ga,he⟩: ∃x,wrA res=x:=⟨_,rfl⟩;obtain⟨ge,hi⟩: ∃x,wrE res=x:=⟨_,rfl⟩;have hv:Hid (Calls prog 68 #[.slice (some ⟨b,off,none⟩) xs.length cap] w _):=gt b off cap xs w hc hl;have ht:Hid (∀w1,zK w1 w.heap.size (xs++List.replicate 8 zQ)->Below w.heap.size w w1->w1.cell? ⟨p.pb,0,none⟩=some (.pointer (some ⟨p.gb,0,none⟩))/\Calls prog 24 #[.pointer (some ⟨p.gb,0,none⟩),.slice (some ⟨w.heap.size,0,none⟩) xs.length (xs.length+8)] w1.drew λe w2=>e=.returned (.tuple #[.int .i64 gv,.int .i64 ga,.int .i64 ge])/\
   Calls prog 69 #[.slice (some ⟨w.heap.size,0,none⟩) (xs.length+8) (xs.length+8),.slice (some ⟨b,off,none⟩) xs.length cap] w2 λe w3=>e=.returned (.bool true)/\w3.cell? ⟨p.pb,1,none⟩=some (.pointer (some ⟨p.rb,0,none⟩))/\
    Calls prog 35 #[.pointer (some ⟨p.rb,0,none⟩),.slice (some ⟨b,off,none⟩) xs.length cap] w3 λe w'=>e=.returned (.tuple #[.int .i64 gv,.int .i64 ga,.int .i64 ge])/\yq B V p w (.returned (.bool true)) w'):=by
  intro w1 h1 h6;have hs:w.heap.size<w1.heap.size:=qc h1;have hg:Below w.heap.size w w1.drew:=h6.drew;refine⟨qa (by rw[h6.block _ (qc h.doc.pair)];exact h.doc.pair) (j:=0) rfl,?_⟩
  refine(nK h hg (Or.inr ⟨w.heap.size,0,xs.length+8,rfl,by omega,?_⟩) ho hf h2 ⟨ha,he,hi⟩).mono ?_
  ·intro i x hx
   rw[Ul];refine qa (ff h1) (x4 ?_);rw[Oz (OE.1 hx).1];exact hx
  ·rintro e w2 ⟨rfl,h5⟩
   refine⟨rfl,?_⟩;have hE:w1.heap.size<=w2.heap.size:=h5.1.size;have h3:zK w2 w.heap.size (xs++List.replicate 8 zQ):=by unfold zK;rw[h5.1.block _ hs (by intro e;injection e with e;omega)];exact h1
   have hr: ∀i x,xs[i]?=some x->w2.cell? ⟨b,off+i,none⟩=some (.string x):=by
    intro i x hx;have a:=hc i x hx;have hu:=qp a;rw[(zR h5.1).1 b _ (by show b<w1.heap.size;omega) hn]
    exact(h6.cell hu).trans a
   refine(oQ b off cap w.heap.size xs w2 hr hm hl h3).mono ?_;rintro e w3 ⟨rfl,h8⟩;have c2:Frm (λk=>k=p.gb) w w2:=nJ hg h5;have c3:Frm (λk=>k=p.gb) w w3:=c2.trans (Frm.of_grown (X:=λk=>k=w.heap.size) h8 λk e=>by injection e with e;exact e.symm) λj hj e=>by omega
   refine⟨rfl,qa (ka h c3).pair (j:=1) rfl,nL h hV hB hg h2 ⟨ha,he,hi⟩ h5 h8.size (λk hk hd=>h8.block k hk ?_) c3 (Or.inl (Or.inr ⟨b,off,cap,rfl,?_⟩)) ho hf⟩
   ·intro e;injection e with e
    rcases hd with hd|hd
    ·omega
    ·have:w1.heap.size<=k:=hd
     omega
   ·intro i x hx
    have a:=hr i x hx;rw[(zR h8).1 b _ (qp a) hm];exact a
 have e1:(gv==gv)=true:=by simp
 have e2:(ga==ga)=true:=by simp
 have e3:(ge==ge)=true:=by simp
 clear ha he hi h hV hB h2 hc hf h9 hm hn;go_enter func76,ntmps76
 go_wp2_with(go_at_call 68;refine hv.out.mono ?_;rintro e w1 ⟨rfl,h7,h6⟩;obtain⟨hC,h9⟩:=ht.out w1 h7 h6;have hz:Hid (Calls prog 24 #[.pointer (some ⟨p.gb,0,none⟩),.slice (some ⟨w.heap.size,0,none⟩) xs.length (xs.length+8)] w1.drew _):=h9;clear h9)
 go_region_with(go_at_call 24;refine hz.out.mono ?_;rintro e w2 ⟨rfl,hp⟩;have hy:Hid (Calls prog 69 #[.slice (some ⟨w.heap.size,0,none⟩) (xs.length+8) (xs.length+8),.slice (some ⟨b,off,none⟩) xs.length cap] w2 _):=hp;clear hp)
 all_goals go_wp2_with(first|(go_at_call 69;refine hy.out.mono ?_;rintro e w3 ⟨rfl,hD,hq⟩;have hA:Hid (Calls prog 35 #[.pointer (some ⟨p.rb,0,none⟩),.slice (some ⟨b,off,none⟩) xs.length cap] w3 _):=hq;clear hq)|(go_at_call 35;refine hA.out.mono ?_;rintro e w4 ⟨rfl,h0⟩;have h4:Hid (yq B V p w (.returned (.bool true)) w4):=h0;clear h0))
 all_goals (go_ret;exact h4.out)
theorem rm(h:PairA B V p w)(hV:V+1<=4611686018427387904)(hB:B<=w.heap.size)(a:Addr):
  Calls prog 76 #[.pointer (some ⟨p.pb,0,none⟩),.slice (some a) 0 0] w (yq B V p w):=by
 have h8:p.gb<w.heap.size:=qc h.kd.pg;obtain⟨res,h1⟩: ∃res,wrC p.g.cl (qh p.xs) p.now []=res:=⟨_,rfl⟩;obtain⟨gv,hc⟩: ∃x,wrV p.g.ver res=x:=⟨_,rfl⟩;obtain⟨ga,he⟩: ∃x,wrA res=x:=⟨_,rfl⟩;obtain⟨ge,hb⟩: ∃x,wrE res=x:=⟨_,rfl⟩;have ho:Hid (Calls prog 68 #[.slice (some a) 0 0] w _):=dH a w;have hn:Hid (∀w1,zK w1 w.heap.size (List.replicate 8 zQ)->Below w.heap.size w w1->w1.cell? ⟨p.pb,0,none⟩=some (.pointer (some ⟨p.gb,0,none⟩))/\Calls prog 24 #[.pointer (some ⟨p.gb,0,none⟩),.slice (some ⟨w.heap.size,0,none⟩) 0 8] w1.drew λe w2=>e=.returned (.tuple #[.int .i64 gv,.int .i64 ga,.int .i64 ge])/\
   Calls prog 69 #[.slice (some ⟨w.heap.size,0,none⟩) 8 8,.slice (some a) 0 0] w2 λe w3=>e=.returned (.bool true)/\w3.cell? ⟨p.pb,1,none⟩=some (.pointer (some ⟨p.rb,0,none⟩))/\
    Calls prog 35 #[.pointer (some ⟨p.rb,0,none⟩),.slice (some a) 0 0] w3 λe w'=>e=.returned (.tuple #[.int .i64 gv,.int .i64 ga,.int .i64 ge])/\yq B V p w (.returned (.bool true)) w'):=by
  intro w1 h2 h6;have hi:w.heap.size<w1.heap.size:=qc h2;have h9:Below w.heap.size w w1.drew:=h6.drew;refine⟨qa (by rw[h6.block _ (qc h.doc.pair)];exact h.doc.pair) (j:=0) rfl,?_⟩
  refine(nK h h9 (xs:=[]) (Or.inr ⟨w.heap.size,0,8,rfl,by omega,λi x hx=>by simp at hx⟩) (Um _) (λx hx=>absurd hx O4) h1 ⟨hc,he,hb⟩).mono ?_
  ·rintro e w2 ⟨rfl,h7⟩
   refine⟨rfl,?_⟩;have hs:w1.heap.size<=w2.heap.size:=h7.1.size;have h3:zK w2 w.heap.size (List.replicate 8 zQ):=by unfold zK;rw[h7.1.block _ hi (by intro e;injection e with e;omega)];exact h2
   refine(pW a w.heap.size w2 h3).mono ?_;rintro e w3 ⟨rfl,ha⟩;have c2:Frm (λk=>k=p.gb) w w2:=nJ h9 h7;have c3:Frm (λk=>k=p.gb) w w3:=c2.trans (Frm.of_grown (X:=λk=>k=w.heap.size) ha λk e=>by injection e with e;exact e.symm) λj hj e=>by omega
   refine⟨rfl,qa (ka h c3).pair (j:=1) rfl,nL h hV hB h9 h1 ⟨hc,he,hb⟩ h7 ha.size (λk hk hd=>ha.block k hk ?_) c3 (Or.inr ⟨a,rfl,rfl⟩) (Um _) (λx hx=>absurd hx O4)⟩
   ·intro e;injection e with e
    rcases hd with hd|hd
    ·omega
    ·have:w1.heap.size<=k:=hd
     omega
 have e1:(gv==gv)=true:=by simp
 have e2:(ga==ga)=true:=by simp
 have e3:(ge==ge)=true:=by simp
 clear hc he hb h hV hB h1 h8;go_enter func76,ntmps76
 go_wp2_with(go_at_call 68;refine ho.out.mono ?_;rintro e w1 ⟨rfl,h5,h6⟩;obtain⟨hq,h8⟩:=hn.out w1 h5 h6;have hl:Hid (Calls prog 24 #[.pointer (some ⟨p.gb,0,none⟩),.slice (some ⟨w.heap.size,0,none⟩) 0 8] w1.drew _):=h8;clear h8)
 go_region_with(go_at_call 24;refine hl.out.mono ?_;rintro e w2 ⟨rfl,hf⟩;have hp:Hid (Calls prog 69 #[.slice (some ⟨w.heap.size,0,none⟩) 8 8,.slice (some a) 0 0] w2 _):=hf;clear hf)
 all_goals go_wp2_with(first|(go_at_call 69;refine hp.out.mono ?_;rintro e w3 ⟨rfl,hr,hg⟩;have hm:Hid (Calls prog 35 #[.pointer (some ⟨p.rb,0,none⟩),.slice (some a) 0 0] w3 _):=hg;clear hg)|(go_at_call 35;refine hm.out.mono ?_;rintro e w4 ⟨rfl,h0⟩;have h4:Hid (yq B V p w (.returned (.bool true)) w4):=h0;clear h0))
 all_goals (go_ret;exact h4.out)
variable{L:List PA}{W:World}{i wb:Nat}{l1 l3 pv:Value}{us ws:List Value}
theorem tU(hS:LA W w wb V L pv l1 l3 us ws)(hV:V+1<=4611686018427387904)(hi:L[i]?=some p)(tv:Value)(xs:List BA)(ht:pX W tv xs)(hl:xs.length<=8796093022208)(h0: ∀x∈xs,x.size<=140737488355328):
  Calls prog 76 #[.pointer (some ⟨p.pb,0,none⟩),tv] w (qw W wb V L us):=by
 have hp:=hS.pairs p (OX.2 ⟨i,hi⟩);have hB:=hS.below.size;have key:Calls prog 76 #[.pointer (some ⟨p.pb,0,none⟩),tv] w (yq W.heap.size V p w):=by
  rcases ht with⟨rfl,rfl⟩|⟨a,rfl,rfl⟩|⟨b,off,cap,rfl,h1,h2⟩
  ·exact tT hp hV hB
  ·exact rm hp hV hB a
  ·exact rk hp hV hB b off cap xs (λi x hx=>(hS.below.cell h1).trans (h2 i x hx)) h1 hl h0
 refine key.mono ?_;rintro e w' ⟨rfl,hP⟩;obtain⟨L',h3,h'⟩:=hS.turn hi (by omega) hP
 exact⟨rfl,L',pv,l1,l3,us,ws,h',by omega,by omega,Ud _⟩
theorem Q5(hS:LA W w wb V L pv l1 l3 us ws)(hm:us.length<=140737488355328):
  Calls prog 37 #[.pointer (some ⟨wb,0,none⟩)] w λe w'=>e=.returned (.bool true)/\w'=w:=
 X8 wb pv l1 l3 us ws w hS.lw (ke hS.o1) (ke hS.o3) hS.three hm (λk u hu=>(hS.full1 k u hu).full) (λk j u h1 h2 h3=>(hS.full3 k j u h1 h2 h3).at)
theorem LA.start(W:World):LA W (W.alloc (.cells #[.slice none 0 0,.slice none 0 0,.slice none 0 0] 61)) W.heap.size 0 [] (.slice none 0 0) (.slice none 0 0) (.slice none 0 0) [] [] where
 lw:=qn W [.slice none 0 0,.slice none 0 0,.slice none 0 0] _
 op:=⟨rfl,Or.inl ⟨rfl,rfl⟩⟩
 o1:=⟨rfl,Or.inl ⟨rfl,rfl⟩⟩
 o3:=⟨rfl,Or.inl ⟨rfl,rfl⟩⟩
 sep:=λk h=>by cases h
 pairs:=λp hp=>absurd hp O4
 dis:=λi j p q hp=>by simp at hp
 own:=λp hp=>absurd hp O4
 fB:=λp hp=>absurd hp O4
 lst:=λu hu=>by rcases hu with h|h<;>exact absurd h O4
 three:=rfl
 full1:=λk u hu=>by simp at hu
 full3:=λk j u hk=>absurd hk (Uj k)
 below:=(Ou _ _).alloc (Uc _) _
 wbB:=Uc _
theorem kF(hS:LA W w wb V L pv l1 l3 us ws)(hV:0<=V)(hn:L.length<=8796093022208)(wk qu:Int)(hr:zB jd wk qu=none):
  Calls prog 34 #[] w λe w1=>e=.returned (.slice (some ⟨w.heap.size,0,none⟩) 4 4)/\Calls prog 33 #[.pointer (some ⟨wb,0,none⟩),.slice (some ⟨w.heap.size,0,none⟩) 4 4,.int .i64 wk,.int .i64 qu] w1 λe w2=>e=.returned (.bool true)/\ ∃pv' p,LA W w2 wb V (L++[p]) pv' l1 l3 us ws/\p.xs=jd/\p.now=[]/\p.g.ver=0/\p.g.cl=false:=by
 refine(Yx w).mono ?_;rintro e w1 ⟨rfl,h0,hb⟩;refine⟨rfl,?_⟩;refine(oh (hS.later hb) hV hn _ jd wk qu (Or.inr (Or.inr ⟨w.heap.size,0,4,rfl,qc h0,λi x hx=>by rw[Ul];exact qa h0 (x4 hx)⟩)) (by decide) (by decide)).mono ?_
 rintro e w2 ⟨pv',L',rfl,h1,⟨h2,-⟩|⟨-,p,rfl,h3⟩⟩
 ·exact absurd hr h2
 ·exact⟨rfl,pv',p,h1,h3⟩
theorem aU{p1 p2:PA}(hS:LA W w wb 0 [p1,p2] pv l1 l3 us ws)(hx:p1.xs=jd)(hb:p1.now=[])(h5:p1.g.ver=0)(hg:p1.g.cl=false):
  ∃pg pc,pv=.slice (some ⟨pg,0,none⟩) 2 pc/\w.cell? ⟨wb,0,none⟩=some pv/\w.cell? ⟨pg,0,none⟩=some (.pointer (some ⟨p1.pb,0,none⟩))/\w.cell? ⟨p1.pb,0,none⟩=some (.pointer (some ⟨p1.gb,0,none⟩))/\
   ∀w5,Below w.heap.size w w5->zK w5 w.heap.size vW->Calls prog 24 #[.pointer (some ⟨p1.gb,0,none⟩),.slice (some ⟨w.heap.size,0,none⟩) 2 2] w5 λe w6=>e=.returned (.tuple #[.int .i64 1,.int .i64 0,.int .i64 0])/\
    w6.cell? ⟨wb,0,none⟩=some pv/\w6.cell? ⟨pg,0,none⟩=some (.pointer (some ⟨p1.pb,0,none⟩))/\w6.cell? ⟨p1.pb,1,none⟩=some (.pointer (some ⟨p1.rb,0,none⟩))/\
    ∀w7,Below w6.heap.size w6 w7->Calls prog 35 #[.pointer (some ⟨p1.rb,0,none⟩),.slice (some ⟨w.heap.size,0,none⟩) 2 2] w7 λe w8=>e=.returned (.tuple #[.int .i64 1,.int .i64 0,.int .i64 0])/\ ∃L',LA W w8 wb 1 L' pv l1 l3 us ws/\L'.length=2:=by
 have hi:[p1,p2][0]?=some p1:=rfl;have hp:=hS.pairs p1 (by simp)
 obtain⟨ys,hf,hq⟩: ∃ys,wrC p1.g.cl (qh p1.xs) p1.now vW=.inr ys/\ys.length<=50:=by
  rw[hx,hb,hg];show∃ys,jN (qh jd) [] vW=.inr ys/\ys.length<=50
  have:=wI;split at this
  ·rename_i ys h;exact⟨ys,h,of_decide_eq_true this⟩
  ·cases this
 have he:wrV p1.g.ver (.inr ys)=1/\wrA (.inr ys)=0/\wrE (.inr ys)=0:=by
  refine⟨?_,rfl,?_⟩
  ·show(if 50<ys.length then 0 else p1.g.ver+1)=(1:Int)
   rw[if_neg (by omega),h5];rfl
  ·show(if 50<ys.length then 6 else 0)=(0:Int)
   rw[if_neg (by omega)]
 have hv:=hS.op;rcases ke (us:=[Value.pointer (some ⟨p1.pb,0,none⟩),.pointer (some ⟨p2.pb,0,none⟩)]) hv with⟨-,e⟩|⟨pg,pc,ha,hc⟩
 ·cases e
 ·have ho:=(qf hv pg (by rw[ha];rfl)).2
  refine⟨pg,pc,ha,qa hS.lw (j:=0) rfl,hc 0 _ rfl,qa hp.doc.pair (j:=0) rfl,?_⟩;intro w5 h8 h0;have hr:p1.gb<w.heap.size:=qc hp.kd.pg;refine(nK hp h8 (xs:=vW) (Or.inr ⟨w.heap.size,0,2,rfl,by omega,λi x hx=>by rw[Ul];exact qa h0 (x4 hx)⟩) (by decide) (by decide) hf he).mono ?_
  rintro e w6 ⟨rfl,h7⟩;have hn:w.heap.size<w5.heap.size:=qc h0;have c6:Frm (λk=>k=p1.gb) w w6:=nJ h8 h7;have h1:=hS.own p1 (by simp) p1.gb (Or.inr (Or.inr (Or.inl rfl)))
  have h9:ue w6 wb pv l1 l3:=(c6.block wb (qc hS.lw) λe=>h1.1 e.symm).trans hS.lw;have hd:w6.ownsRow (wb+1) 66 1 pv 2 [Value.pointer (some ⟨p1.pb,0,none⟩),.pointer (some ⟨p2.pb,0,none⟩)]:=qF hv λk hk=>c6.block k (qf hv k hk).1 λe=>h1.2.1 (e▸hk);have hm:w6.cell? ⟨pg,0,none⟩=some (.pointer (some ⟨p1.pb,0,none⟩)):=by
   rcases ke (us:=[Value.pointer (some ⟨p1.pb,0,none⟩),.pointer (some ⟨p2.pb,0,none⟩)]) hd with⟨-,e⟩|⟨pg',pc',h3,hj⟩
   ·cases e
   ·rw[ha]at h3;injection h3 with a;injection a with a;injection a with a;subst a;exact hj 0 _ rfl
  refine⟨rfl,qa h9 (j:=0) rfl,hm,qa (ka hp c6).pair (j:=1) rfl,?_⟩;intro w7 h4;have h2:zK w7 w.heap.size vW:=by
   have h6:zK w6 w.heap.size vW:=by unfold zK;rw[h7.1.block _ hn (by intro e;injection e with e;omega)];exact h0
   unfold zK;rw[h4.block _ (qc h6)];exact h6
  have c7:Frm (λk=>k=p1.gb) w w7:=c6.trans (Frm.of_below (X:=λ_=>False) h4) λ_ _ e=>e.elim;refine(nL hp (by decide) hS.below.size h8 hf he h7 h4.size (λk hk _=>h4.block k hk) c7 (v:=.slice (some ⟨w.heap.size,0,none⟩) 2 2) (Or.inl (Or.inr ⟨w.heap.size,0,2,rfl,λi x hx=>by rw[Ul];exact qa h2 (x4 hx)⟩)) (by decide) (by decide)).mono ?_
  rintro e w8 ⟨rfl,-,hP⟩;obtain⟨L',hl,h'⟩:=hS.turn hi (by decide) hP
  exact⟨rfl,L',h',hl⟩
theorem eQ(W:World)(x:Option Addr)(c:Nat)(z:Int):
  Calls prog 13 #[.slice x 0 c,.int .i64 z] W λe w'=>e=.returned (.bool true)/\Below W.heap.size W w':=by
 have hz:(W.alloc (.cells #[.slice none 0 0,.slice none 0 0,.slice none 0 0] 61)).heap.size=W.heap.size+1:=by simp
 have h1:=kF (LA.start W) (by decide) (by simp) 2 3 bO
 rw[hz]at h1;have HR:Hid (Calls prog 34 #[] _ _):=h1;clear h1 hz;go_enter func13,ntmps13
 go_wp2_with(first|(go_at_call 34;refine HR.out.mono ?_;rintro e w1 ⟨rfl,ho⟩;have HO:Hid (Calls prog 33 #[.pointer (some ⟨W.heap.size,0,none⟩),_,_,_] w1 _):=ho;clear ho)|(go_at_call 33;refine HO.out.mono ?_;rintro e w4 ⟨rfl,pv2,p2,h3,-⟩;have hd:Hid (LA W w4 W.heap.size 0 [p1,p2] pv2 _ _ _ _):=h3;clear h3;obtain⟨pg,pc,rfl,he,hi,ha,h7⟩:=aU hd.out h0.out.1 h0.out.2.1 h0.out.2.2.1 h0.out.2.2.2;have h9:Hid (Calls prog 24 #[.pointer (some ⟨p1.gb,0,none⟩),.slice (some ⟨w4.heap.size,0,none⟩) 2 2] (w4.alloc (.cells (qg vW).toArray 9)) _):=h7 _ ((Ou _ _).alloc (Uc _) _) (qn w4 (qg vW) _);clear h7;have hb:=ct he;have hc:=ct hi;have hg:=ct ha)|(go_at_call 33;refine HO.out.mono ?_;rintro e w2 ⟨rfl,pv1,p1,h2,h8⟩;have h0:Hid (p1.xs=jd/\p1.now=[]/\p1.g.ver=0/\p1.g.cl=false):=h8;clear h8;have HR:Hid (Calls prog 34 #[] _ _):=kF h2 (by decide) (by simp) 1 1 bP;clear h2)|(go_at_call 24;refine h9.out.mono ?_;rintro e w6 ⟨rfl,hl,hk,hm,h6⟩;have hj:Hid (∀w7,Below w6.heap.size w6 w7->Calls prog 35 #[.pointer (some ⟨p1.rb,0,none⟩),.slice (some ⟨w4.heap.size,0,none⟩) 2 2] w7 _):=h6;clear h6)|(go_at_call 35;refine(hj.out _ bl).mono ?_;rintro e w8 ⟨rfl,L8,h5,h4⟩;have hf:Hid (LA W w8 W.heap.size 1 L8 _ _ _ _ _/\L8.length=2):=⟨h5,h4⟩;clear h5 h4))
 refine wp_loop_rounds 1 ?_;rw[rounds_succ];go_wp2;go_ret;exact⟨rfl,hf.out.1.below⟩
theorem oj(hS:LA W w wb V L pv l1 l3 us ws)(hb:Below w.heap.size w w'):qw W wb V L us (.returned (.bool true)) w':=
 ⟨rfl,L,pv,l1,l3,us,ws,(hS.later hb).more (by omega),Uc _,Ud _,Ud _⟩
theorem eR(HN:Hid xS)(HW:Hid xh)(HR:Hid uL)(hS:LA W w wb V L pv l1 l3 us ws)(hi:L[i]?=some p)(s:BA)(hs:s.size<=maxLen):
  Calls prog 21 #[.pointer (some ⟨p.gb,0,none⟩),.string s] w λe w2=> ∃(bo:Bool) (er:Int),e=.returned (.tuple #[.bool bo,.int .i64 er])/\Below w.heap.size w w2/\
   ∀w2',Below w2.heap.size w2 w2'->Calls prog 120 #[.pointer (some ⟨p.rb,0,none⟩),.string s] w2' λe w3=>e=.returned (.tuple #[.bool bo,.int .i64 er])/\qw W wb V L us (.returned (.bool true)) w3:=by
 have hp:=hS.pairs p (OX.2 ⟨i,hi⟩);obtain⟨dok,dat⟩:=hp.docAt;refine(tf HN HW (hp.kd.gate s hs) s hs (λh _=>cf h p.xs p.now) (ki s hs)).mono ?_;rintro e w2 ⟨bo,er,rfl,h2,he,h3⟩;refine⟨bo,er,rfl,h2,λw2' hb=>?_⟩;have h1:Below w.heap.size w w2':=h2.trans (hb.mono h2.size);refine(oW HR dok (dat.below h1) s hs).mono ?_;rintro e w3 ⟨bo',er',rfl,h4,h5,h0⟩;have e1:er'=er:=h5.trans he.symm;have e2:bo'=bo:=by
  rw[e1]at h0;cases bo<;>cases bo'
  ·rfl
  ·exact(h3.2 (h0.1 rfl)).symm
  ·exact h0.2 (h3.1 rfl)
  ·rfl
 exact⟨by rw[e1,e2],oj hS (h1.trans (h4.mono h1.size))⟩
theorem Q6(HN:Hid xS)(HW:Hid xh)(HR:Hid jC)(hS:LA W w wb V L pv l1 l3 us ws)(hi:L[i]?=some p)(s:BA)(hs:s.size<=maxLen):
  Calls prog 20 #[.pointer (some ⟨p.gb,0,none⟩),.string s] w λe w2=> ∃(n er:Int),e=.returned (.tuple #[.int .i64 n,.int .i64 er])/\Below w.heap.size w w2/\
   ∀w2',Below w2.heap.size w2 w2'->Calls prog 121 #[.pointer (some ⟨p.rb,0,none⟩),.string s] w2' λe w3=>e=.returned (.tuple #[.int .i64 n,.int .i64 er])/\qw W wb V L us (.returned (.bool true)) w3:=by
 have hp:=hS.pairs p (OX.2 ⟨i,hi⟩);obtain⟨dok,dat⟩:=hp.docAt;have HG:Hid (Calls prog 20 #[.pointer (some ⟨p.gb,0,none⟩),.string s] w (uH p.xs p.now s w)):=Ja HN HW (hp.kd.gate s hs) s hs (λh _=>cf h p.xs p.now) (ki s hs);have HF:Hid (∀w',Below w.heap.size w w'->Calls prog 121 #[.pointer (some ⟨p.rb,0,none⟩),.string s] w' (uH p.xs p.now s w')):=λw' hb=>wP HR dok (dat.below hb) s hs;have HP:Hid (∀w',Below w.heap.size w w'->qw W wb V L us (.returned (.bool true)) w'):=λw' hb=>oj hS hb;exact ZT HG HF HP
theorem nZ(HN:Hid xS)(HW:Hid xh)(HR:Hid uL)(hS:LA W w wb V L pv l1 l3 us ws)(hi:L[i]?=some p)(h1:(us.length+1) * 24<=140737488355328)(h3:(3 * us.length+3) * 24<=140737488355328)(hm:us.length<=140737488355328)(s:BA)(hs:s.size<=maxLen):
  Calls prog 40 #[.pointer (some ⟨p.gb,0,none⟩),.string s] w λe w2=> ∃o n c,∃er:Int,e=.returned (.tuple #[.slice o n c,.int .i64 er])/\Below w.heap.size w w2/\(er=0\/er≠0/\o=none/\n=0/\c=0)/\
   ∀w2',Below w2.heap.size w2 w2'->Calls prog 122 #[.pointer (some ⟨p.rb,0,none⟩),.string s] w2' λe w3=> ∃o' n' c',e=.returned (.tuple #[.slice o' n' c',.int .i64 er])/\
    ∀w3',Below w3.heap.size w3 w3'->Calls prog 77 #[.slice o n c,.slice o' n' c'] w3' λe w4=>e=.returned (.bool true)/\
     ∀w4',Below w4.heap.size w4 w4'->Calls prog 78 #[.pointer (some ⟨wb,0,none⟩),.slice o n c] w4' λe w5=>e=.returned (.tuple #[])/\qw W wb V L us (.returned (.bool true)) w5:=by
 have hp:=hS.pairs p (OX.2 ⟨i,hi⟩);obtain⟨dok,dat⟩:=hp.docAt;refine(Zd HN HW (hp.kd.gate s hs) s hs (λh _=>cf h p.xs p.now) (ki s hs)).mono ?_;rintro e w2 ⟨o,n,c,er,rfl,h8,he,zs,rfl,hu,hr,h7,hz⟩;refine⟨o,_,c,er,rfl,h8,?_,λw2' hb=>?_⟩
 ·by_cases h0:er=0
  ·exact Or.inl h0
  ·rw[if_neg h0]at hz
   exact Or.inr ⟨h0,hz⟩
 have h5:Below w.heap.size w w2':=h8.trans (hb.mono h8.size);refine(nA HR dok (dat.below h5) s hs).mono ?_;rintro e w3 ⟨o',n',c',er',rfl,hg,ht,zs',rfl,hc,ho,hl,ha⟩;have e1:er'=er:=ht.trans he.symm;subst e1;have hn:Below w.heap.size w w3:=h5.trans (hg.mono h5.size);have e2:zs'=zs:=by
  by_cases h0:er'=0
  ·rw[if_pos h0]at hz ha
   exact lQ _ _ hc hu λs=>(ha s).trans (hz s).symm
  ·rw[if_neg h0]at hz ha
   rw[ha];exact(Oy hz.2.1).symm
 subst e2;refine⟨o',_,c',rfl,λw3' hj=>?_⟩;have h6:Below w2.heap.size w2 w3:=hb.trans (hg.mono hb.size);have h2:Below w2.heap.size w2 w3':=h6.trans (hj.mono h6.size);have hk:zs'.length<=maxLen:=by have:=ji;omega
 refine(mK _ _ zs' zs' w3' (yi (q9 h7 h2)) (xg hl hj) hk hk).mono ?_;rintro e w4 ⟨rfl,hd⟩;refine⟨by simp[lD],λw4' hq=>?_⟩
 have h9:Below w2.heap.size w2 w4':=(h2.trans ((qN hd).mono h2.size)).trans (hq.mono (Ue h2.size (qN hd).size));have hf:Below w.heap.size w w4':=h8.trans (h9.mono h8.size);refine(mA hS hf (q9 h7 h9) hr h1 (by rw[hS.three];exact h3) hm).mono ?_
 rintro e w5 ⟨rfl,-,l1',l3',ws',h4⟩;exact⟨rfl,rfl,L,pv,l1',l3',_,ws',h4.more (by omega),Uc _,Ud _,by simp⟩
theorem Q7{o:Obj}(hk:w.grownBy w' (some gb))(h:w.heap[gb]?=some o)(h':w'.heap[gb]?=some o):Below w.heap.size w w':=by
 refine Frm.below (X:=λk=>False) (Ou _ _) ⟨hk.os,hk.tape,hk.output,hk.size,λk h0 _=>?_⟩ (Uc _) λk _ e=>e.elim;by_cases e:k=gb
 ·rw[e,h,h']
 ·exact hk.block k h0 (by intro e2;injection e2 with e2;exact e e2)
theorem eS(hS:LA W w wb V L pv l1 l3 us ws)(hi:L[i]?=some p)(h1:(us.length+1) * 24<=140737488355328)(h3:(3 * us.length+3) * 24<=140737488355328)(hm:us.length<=140737488355328):
  Calls prog 23 #[.pointer (some ⟨p.gb,0,none⟩)] w λe w2=> ∃vx vn vc,e=.returned (.slice vx vn vc)/\w2.cell? ⟨p.pb,1,none⟩=some (.pointer (some ⟨p.rb,0,none⟩))/\w2.cell? ⟨p.rb,1,none⟩=some p.r.nowV/\
   ∀w2',Below w2.heap.size w2 w2'->Calls prog 77 #[.slice vx vn vc,p.r.nowV] w2' λe w3=>e=.returned (.bool true)/\
    ∀w3',Below w3.heap.size w3 w3'->Calls prog 78 #[.pointer (some ⟨wb,0,none⟩),.slice vx vn vc] w3' λe w4=>e=.returned (.tuple #[])/\qw W wb V L us (.returned (.bool true)) w4:=by
 have hp:=hS.pairs p (OX.2 ⟨i,hi⟩);refine(Zz p.gb p.g p.now w hp.kd.pg hp.kd.lk hp.kd.tv.strs hp.kd.nl (rF hp.kd.tv hp.kd.pg (by decide))).mono ?_
 rintro e w2 ⟨v,rfl,hv,h2,ha⟩;obtain⟨vx,vc,rfl⟩:=qz hv;have h5:Below w.heap.size w w2:=Q7 ha hp.kd.pg h2;have h7:=hS.later h5;have h6:=h7.pairs p (OX.2 ⟨i,hi⟩);refine⟨vx,p.now.length,vc,rfl,qa h6.doc.pair (j:=1) rfl,qa h6.doc.qs.rg (j:=1) rfl,?_⟩;intro w2' hb;have h8:p.now.length<=maxLen:=Ue hp.kd.nl (by unfold maxLen;omega)
 refine(mK _ _ p.now p.now w2' (yi (q9 hv hb)) ((h7.later hb).pairs p (OX.2 ⟨i,hi⟩)).doc.nv.strs h8 h8).mono ?_;rintro e w3 ⟨rfl,hd⟩;refine⟨by simp[lD],?_⟩
 intro w3' h9;have h0:Below w2.heap.size w2 w3':=(hb.trans ((qN hd).mono hb.size)).trans (h9.mono (Ue hb.size (qN hd).size));refine(mA hS (h5.trans (h0.mono h5.size)) (q9 hv h0) hp.kd.nl h1 (by rw[hS.three];exact h3) hm).mono ?_
 rintro e w4 ⟨rfl,-,l1',l3',ws',h4⟩;exact⟨rfl,rfl,L,pv,l1',l3',_,ws',h4.more (by omega),Uc _,Ud _,by simp⟩
theorem kG(hS:LA W w wb V L pv l1 l3 us ws)(h5:0<L.length)(hn:L.length<=8796093022208)(g:Int)(hg: -9223372036854775808<=g/\g<=9223372036854775807):
  ∃(i:Nat) (p:PA) (pg pc:Nat),i<L.length/\L[i]?=some p/\pv=.slice (some ⟨pg,0,none⟩) L.length pc/\w.cell? ⟨wb,0,none⟩=some pv/\w.cell? ⟨pg,i,none⟩=some (.pointer (some ⟨p.pb,0,none⟩))/\
   ∀w1,Calls prog 75 #[.int .i64 g,.int .i64 L.length] w1 λe w'=>e=.returned (.int .i64 i)/\w'=w1:=by
 obtain⟨h1,h2⟩:=JJ g L.length (by omega)
 obtain⟨i,hi⟩:=Int.eq_ofNat_of_zero_le h1;rw[hi]at h2;have h3:i<L.length:=by omega
 have hv:=hS.op;have h0:L.length=(L.map λp=>Value.pointer (some ⟨p.pb,0,none⟩)).length:=by rw[OM]
 rw[h0]at hv;rcases ke hv with⟨-,e⟩|⟨pg,pc,h4,hc⟩
 ·have:=congrArg List.length e
  rw[OM]at this
  change L.length=0 at this
  omega
 ·rw[OM]at h4
  refine⟨i,L[i],pg,pc,h3,OC h3,h4,qa hS.lw (j:=0) rfl,hc i _ ?_,λw1=>?_⟩
  ·rw[OF,OC h3];rfl
  ·rw[←hi];exact JK g L.length w1 hg.1 hg.2 (by omega) (by omega)
theorem KO(HR:Hid uL)(hS:LA W w wb V L pv l1 l3 us ws)(hi:L[i]?=some p)(h1:(us.length+1) * 24<=140737488355328)(h3:(3 * us.length+3) * 24<=140737488355328)(hm:us.length<=140737488355328)(id:Int):
  Calls prog 29 #[.pointer (some ⟨p.gb,0,none⟩),.int .i64 id] w λe w1=> ∃(is st:Int) (al:Bool) (n:Nat) (o:Option Addr) (c:Nat),e=.returned (.agg #[.int .i64 is,.int .i64 st,.bool al,.slice o n c])/\Hid (Below w.heap.size w w1)/\
  Hid (∀w2,Below w1.heap.size w1 w2->Calls prog 174 #[.pointer (some ⟨p.rb,0,none⟩),.int .i64 id] w2 λe w3=> ∃o2 c2,e=.returned (.agg #[.int .i64 is,.int .i64 st,.bool al,.slice o2 n c2])/\Hid (Below w2.heap.size w2 w3)/\
  Hid (∀w4,Below w3.heap.size w3 w4->Calls prog 77 #[.slice o n c,.slice o2 n c2] w4 λe w5=>e=.returned (.bool true)/\Hid (Below w4.heap.size w4 w5)/\
  Hid (∀w6,Below w5.heap.size w5 w6->Calls prog 78 #[.pointer (some ⟨wb,0,none⟩),.slice o n c] w6 λe w7=>e=.returned (.tuple #[])/\Hid (∀(k:Nat) (cs:List Value) (t:TypeId),w6.heap[k]?=some (.cells cs.toArray t (0,0))->t≠61->t≠9->t≠28->w7.heap[k]?=w6.heap[k]?)/\Hid (∀w8,Below w7.heap.size w7 w8->qw W wb V L us (.returned (.bool true)) w8)))):=by
 have hp:=hS.pairs p (OZ hi);have ht:=hS.three;refine(KL HR hp id).mono ?_;rintro e w1 ⟨is,st,al,zs,o,c,rfl,hk,HO,ha,HC⟩;refine⟨is,st,al,zs.length,o,c,rfl,ha.out,λw2 h9=>?_⟩;refine(HC.out w2 h9).mono ?_;rintro e w3 ⟨o2,c2,rfl,hf,hb⟩;refine⟨o2,c2,rfl,hb,λw4 hc=>?_⟩;have h2:Below w1.heap.size w1 w3:=h9.trans (hb.mono h9.size);have h0:Below w1.heap.size w1 w4:=h2.trans (hc.mono h2.size);have hd:zs.length<=maxLen:=by have:=ji;omega
 refine(mK _ _ zs zs w4 (yi (q9 HO.out h0)) (xg hf hc) hd hd).mono ?_;rintro e w5 ⟨rfl,he⟩;refine⟨by simp[lD],qN he,λw6 hj=>?_⟩
 have h4:Below w1.heap.size w1 w5:=h0.trans ((qN he).mono h0.size);have h5:Below w1.heap.size w1 w6:=h4.trans (hj.mono h4.size);have h6:Below w.heap.size w w6:=ha.out.trans (h5.mono ha.out.size);refine(mA hS h6 (q9 HO.out h5) hk h1 (by rw[ht];exact h3) hm).mono ?_
 rintro e w7 ⟨rfl,h8,l1',l3',ws',h7⟩;refine⟨rfl,h8,λw8 hg=>?_⟩;exact⟨rfl,L,pv,l1',l3',_,ws',(h7.later hg).more (by omega),Uc _,Ud _,by simp⟩
def stL(is st:Int)(al:Bool)(o:Option Addr)(n c:Nat):List Value:=[.int .i64 is,.int .i64 st,.bool al,.slice o n c]
theorem Za(HR:Hid uL)(hS:LA W w wb V L pv l1 l3 us ws)(hi:L[i]?=some p)(h1:(us.length+1) * 24<=140737488355328)(h3:(3 * us.length+3) * 24<=140737488355328)(hm:us.length<=140737488355328)(id:Int):
  Calls prog 29 #[.pointer (some ⟨p.gb,0,none⟩),.int .i64 id] w λe w1=> ∃(is st:Int) (al:Bool) (n:Nat) (o:Option Addr) (c:Nat),e=.returned (.agg #[.int .i64 is,.int .i64 st,.bool al,.slice o n c])/\w1.cell? ⟨p.pb,1,none⟩=some (.pointer (some ⟨p.rb,0,none⟩))/\
  Hid (∀w2,Below w1.heap.size w1 w2->w2.heap[w1.heap.size]?=some (.cells (stL is st al o n c).toArray 51 (0,0))->Calls prog 174 #[.pointer (some ⟨p.rb,0,none⟩),.int .i64 id] w2 λe w3=> ∃o2 c2,e=.returned (.agg #[.int .i64 is,.int .i64 st,.bool al,.slice o2 n c2])/\Hid (w3.heap[w1.heap.size]?=some (.cells (stL is st al o n c).toArray 51 (0,0)))/\
  Hid (∀w4,Below w3.heap.size w3 w4->w4.heap[w3.heap.size]?=some (.cells (stL is st al o2 n c2).toArray 51 (0,0))->Calls prog 77 #[.slice o n c,.slice o2 n c2] w4 λe w5=>e=.returned (.bool true)/\Hid (w5.heap[w1.heap.size]?=some (.cells (stL is st al o n c).toArray 51 (0,0)))/\Hid (w5.heap[w3.heap.size]?=some (.cells (stL is st al o2 n c2).toArray 51 (0,0)))/\
  Hid (∀w6,Below w5.heap.size w5 w6->Calls prog 78 #[.pointer (some ⟨wb,0,none⟩),.slice o n c] w6 λe w7=>e=.returned (.tuple #[])/\Hid (w7.heap[w1.heap.size]?=some (.cells (stL is st al o n c).toArray 51 (0,0)))/\Hid (w7.heap[w3.heap.size]?=some (.cells (stL is st al o2 n c2).toArray 51 (0,0)))/\Hid (∀w8,Below w7.heap.size w7 w8->qw W wb V L us (.returned (.bool true)) w8)))):=by
 have hp:=hS.pairs p (OZ hi);refine(KO HR hS hi h1 h3 hm id).mono ?_;rintro e w1 ⟨is,st,al,n,o,c,rfl,hg,HC⟩;refine⟨is,st,al,n,o,c,rfl,qa ((hg.out.block _ (hp.klt _ hp.mem.pb)).trans hp.doc.pair) (j:=1) rfl,λw2 hd hc=>?_⟩;refine(HC.out w2 hd).mono ?_;rintro e w3 ⟨o2,c2,rfl,hj,he⟩;have h4:=(hj.out.block _ (qc hc)).trans hc;refine⟨o2,c2,rfl,h4,λw4 h6 h7=>?_⟩;refine(he.out w4 h6).mono ?_;rintro e w5 ⟨rfl,ha,hf⟩;have hb:=(h6.block _ (qc h4)).trans h4;have h5:=(ha.out.block _ (qc hb)).trans hb;have h0:=(ha.out.block _ (qc h7)).trans h7;refine⟨rfl,h5,h0,λw6 h2=>?_⟩;refine(hf.out w6 h2).mono ?_;rintro e w7 ⟨rfl,HO,HP⟩;have h8:=(h2.block _ (qc h5)).trans h5;have h9:=(h2.block _ (qc h0)).trans h0;exact⟨rfl,(HO.out _ _ _ h8 (by decide) (by decide) (by decide)).trans h8,(HO.out _ _ _ h9 (by decide) (by decide) (by decide)).trans h9,HP.out⟩
theorem eU(HR:Hid uL)(hS:LA W w wb V L pv l1 l3 us ws)(hi:L[i]?=some p)(h1:(us.length+1) * 24<=140737488355328)(h3:(3 * us.length+3) * 24<=140737488355328)(hm:us.length<=140737488355328)(id:Int):
  Calls prog 127 #[.pointer (some ⟨wb,0,none⟩),.pointer (some ⟨p.pb,0,none⟩),.int .i64 id] w (qw W wb V L us):=by
 have hf:w.cell? ⟨p.pb,0,none⟩=some (.pointer (some ⟨p.gb,0,none⟩)):=qa (hS.pairs p (OZ hi)).doc.pair (j:=0) rfl;have HC:Hid (Calls prog 29 #[.pointer (some ⟨p.gb,0,none⟩),.int .i64 id] w _):=Za HR hS hi h1 h3 hm id;clear hS hi h1 h3 hm HR;generalize qw W wb V L us=PP at *;go_enter func127,ntmps127
 go_wp2_with(first|(go_at_call 29;refine HC.out.mono ?_;rintro e w1 ⟨is,st,al,n,o,c,rfl,h9,HQ⟩;have h8:=ct h9;have ha:Hid ((w1.alloc (.cells #[.int .i64 is,.int .i64 st,.bool al,.slice o n c] 51)).heap[w1.heap.size]?=some (.cells (stL is st al o n c).toArray 51 (0,0))):=qn w1 (stL is st al o n c) _;clear HC)|(go_at_call 174;refine(Calls.mono (HQ.out _ bl (by exact ha.out))) ?_;rintro e w3 ⟨o2,c2,rfl,hb,h4⟩;have he: ∀ob,(w3.alloc ob).cell? ⟨w1.heap.size,3,none⟩=some (.slice o n c):=λob=>qa (qG hb.out ob) (j:=3) rfl;have h7:Hid ((w3.alloc (.cells #[.int .i64 is,.int .i64 st,.bool al,.slice o2 n c2] 51)).heap[w3.heap.size]?=some (.cells (stL is st al o2 n c2).toArray 51 (0,0))):=qn w3 (stL is st al o2 n c2) _;clear HQ)|(go_at_call 77;refine(Calls.mono (h4.out _ bl (by exact h7.out))) ?_;rintro e w5 ⟨rfl,h6,hd,h5⟩;have hc:w5.cell? ⟨w1.heap.size,3,none⟩=some (.slice o n c):=qa h6.out (j:=3) rfl;clear h4)|(go_at_call 78;refine(Calls.mono (h5.out _ bl)) ?_;rintro e w7 ⟨rfl,h0,h2,HP⟩;have s0:w7.cell? ⟨w1.heap.size,0,none⟩=some (.int .i64 is):=qa h0.out (j:=0) rfl;have s1:w7.cell? ⟨w1.heap.size,1,none⟩=some (.int .i64 st):=qa h0.out (j:=1) rfl;have s2:w7.cell? ⟨w1.heap.size,2,none⟩=some (.bool al):=qa h0.out (j:=2) rfl;have t0:w7.cell? ⟨w3.heap.size,0,none⟩=some (.int .i64 is):=qa h2.out (j:=0) rfl;have t1:w7.cell? ⟨w3.heap.size,1,none⟩=some (.int .i64 st):=qa h2.out (j:=1) rfl;have t2:w7.cell? ⟨w3.heap.size,2,none⟩=some (.bool al):=qa h2.out (j:=2) rfl;clear h5))
 exact HP.out _ bl
theorem tY(HR:Hid uL)(hS:LA W w wb V L pv l1 l3 us ws)(hi:L[i]?=some p)(h1:(us.length+1) * 24<=140737488355328)(h3:(3 * us.length+3) * 24<=140737488355328)(hm:us.length<=140737488355328)(g n m:Int)(s:BA)(tv:Value):
  Calls prog 80 #[.pointer (some ⟨wb,0,none⟩),.pointer (some ⟨p.pb,0,none⟩),opV 11 g n m s tv] w (qw W wb V L us):=by
 have HC:Hid (∀w1,Below w.heap.size w w1->Calls prog 127 #[.pointer (some ⟨wb,0,none⟩),.pointer (some ⟨p.pb,0,none⟩),.int .i64 n] w1 λe w'=>e=.returned (.bool true)/\qw W wb V L us (.returned (.bool true)) w'):=λw1 hb=>(eU HR (hS.later hb) hi h1 h3 hm n).mono λe w' hp=>⟨hp.1,rfl,hp.2⟩;clear hS hi h1 h3 hm HR;unfold opV;generalize qw W wb V L us=PP at *;go_enter func80,ntmps80
 go_wp2_with(go_at_call 127;refine(Calls.mono (HC.out _ bl)) ?_;rintro e w3 ⟨rfl,h0⟩)
 exact h0
