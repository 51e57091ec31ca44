import Derived.Test.YtalmoiogbdahcaaGreatAAllSw
open Go.Proofs.Tryz
namespace Go.Proofs.YtalmoiogbdahcaaGreat
set_option maxRecDepth 100000
set_option maxHeartbeats 8000000
open Go.RowKit Go.Shelf
variable{e:Ending}{r:Sum (Nat×Int) (List BA)}{w w':World}
variable{B:Nat}{V:Int}{p:PA}{w3:World}
variable{gb:Nat}{w1 w2:World}
variable{ga ge gv:Int}{res:Sum (Nat×Int) (List BA)}{v:Value}{xs:List BA}
variable{L:List PA}{W:World}{i wb:Nat}{l1 l3 pv:Value}{us ws:List Value}
theorem Q8(hS:LA W w wb V L pv l1 l3 us ws)(k g n m:Int)(s:BA)(tv:Value)(z:Int)(hk:k<1\/z<k):
  Calls prog 36 #[.pointer (some ⟨wb,0,none⟩),opV k g n m s tv,.int .i64 z] w (qw W wb V L us):=by
 have HP:Hid (qw W wb V L us (.returned (.bool true)) (w.alloc (opO k g n m s tv))):=⟨rfl,L,pv,l1,l3,us,ws,(hS.later ((Ou _ _).alloc (Uc _) _)).more (by omega),Uc _,Ud _,Ud _⟩
 clear hS;unfold opV;by_cases hk1:k<1
 ·clear hk
  go_enter func36,ntmps36;go_wp2;go_ret;exact HP.out
 ·have hk:z<k:=by omega
  go_enter func36,ntmps36;go_wp2;go_ret;exact HP.out
theorem Q9(hS:LA W w wb V L pv l1 l3 us ws)(hV:0<=V)(hn:L.length<=8796093022208)(g n m:Int)(s:BA)(tv:Value)(xs:List BA)(ht:pX W tv xs)(hl:xs.length<=8796093022208)(h3: ∀x∈xs,x.size<=140737488355328)(z:Int)(hz: ¬z<1):
  Calls prog 36 #[.pointer (some ⟨wb,0,none⟩),opV 1 g n m s tv,.int .i64 z] w (qw W wb V L us):=by
 have hb:Below w.heap.size w (w.alloc (opO 1 g n m s tv)):=(Ou _ _).alloc (Uc _) _;have HO:Hid (Calls prog 33 #[.pointer (some ⟨wb,0,none⟩),tv,.int .i64 n,.int .i64 m] (w.alloc (opO 1 g n m s tv)) (qw W wb V L us)):=by
  have h0:=hS.later hb;refine(oh h0 hV hn tv xs n m ?_ hl (λx hx=>Ue (h3 x hx) (by unfold maxLen;omega))).mono ?_
  ·rcases ht with h|h|⟨b,off,cap,rfl,h1,h2⟩
   ·exact Or.inl h
   ·exact Or.inr (Or.inl h)
   ·exact Or.inr<|Or.inr ⟨b,off,cap,rfl,Ug h1 h0.below.size,λi x hx=>(h0.below.cell h1).trans (h2 i x hx)⟩
  ·rintro e w' ⟨pv',L',rfl,h1,h2⟩
   refine⟨rfl,L',pv',l1,l3,us,ws,h1.more (by omega),?_,?_,Ud _⟩<;>rcases h2 with⟨-,rfl⟩|⟨-,p,rfl,-⟩<;>simp
 have h4: ∃tx tn tc,tv=.slice tx tn tc:=by
  rcases ht with⟨rfl,-⟩|⟨a,rfl,-⟩|⟨b,off,cap,rfl,-⟩
  ·exact⟨_,_,_,rfl⟩
  ·exact⟨_,_,_,rfl⟩
  ·exact⟨_,_,_,rfl⟩
 obtain⟨tx,tn,tc,rfl⟩:=h4;clear hS ht hl h3 hb hV hn;unfold opV;go_enter func36,ntmps36
 go_wp2_with(go_at_call 33;refine HO.out.mono ?_;rintro e w' ⟨rfl,hp⟩;have HP:Hid (qw W wb V L us (.returned (.bool true)) w'):=⟨rfl,hp⟩;clear hp)
 go_ret;exact HP.out
theorem eT(hS:LA W w wb V L pv l1 l3 us ws)(hV:V+1<=4611686018427387904)(h7:0<L.length)(hn:L.length<=8796093022208)(g n m:Int)(hg: -9223372036854775808<=g/\g<=9223372036854775807)(s:BA)(tv:Value)(xs:List BA)(ht:pX W tv xs)(hl:xs.length<=8796093022208)(h5: ∀x∈xs,x.size<=140737488355328)(z:Int)(hz: ¬z<2):
  Calls prog 36 #[.pointer (some ⟨wb,0,none⟩),opV 2 g n m s tv,.int .i64 z] w (qw W wb V L us):=by
 have hb:Below w.heap.size w (w.alloc (opO 2 g n m s tv)).drew:=((Ou _ _).alloc (Uc _) _).drew;obtain⟨i,p,pg,pc,h9,hi,rfl,h3,h4,h2⟩:=kG (hS.later hb) h7 hn g hg;have HW:Hid (Calls prog 76 #[.pointer (some ⟨p.pb,0,none⟩),tv] (w.alloc (opO 2 g n m s tv)).drew (qw W wb V L us)):=tU (hS.later hb) hV hi tv xs ht hl h5;have h8:Hid (∀w1,Calls prog 75 #[.int .i64 g,.int .i64 L.length] w1 λe w'=>e=.returned (.int .i64 i)/\w'=w1):=h2;have h6: ∃tx tn tc,tv=.slice tx tn tc:=by
  rcases ht with⟨rfl,-⟩|⟨a,rfl,-⟩|⟨b,off,cap,rfl,-⟩
  ·exact⟨_,_,_,rfl⟩
  ·exact⟨_,_,_,rfl⟩
  ·exact⟨_,_,_,rfl⟩
 obtain⟨tx,tn,tc,rfl⟩:=h6;clear hS ht hl h5 hb hV hi h2;have h0:(w.alloc (opO 2 g n m s (.slice tx tn tc))).cell? ⟨wb,0,none⟩=_:=h3;have h1:(w.alloc (opO 2 g n m s (.slice tx tn tc))).cell? ⟨pg,i,none⟩=_:=h4;unfold opO at h3 h4 h0 h1;unfold opV;go_enter func36,ntmps36;go_wp2
 go_region_with(go_at_call 75;refine(h8.out _).mono ?_;rintro e w' ⟨rfl,rfl⟩)
 all_goals go_wp2_with(go_at_call 76;refine HW.out.mono ?_;rintro e w' ⟨rfl,hp⟩;have HP:Hid (qw W wb V L us (.returned (.bool true)) w'):=⟨rfl,hp⟩;clear hp)
 all_goals (go_ret;exact HP.out)
theorem n7(hS:LA W w wb V L pv l1 l3 us ws)(hf:0<L.length)(hn:L.length<=8796093022208)(g n m:Int)(hg: -9223372036854775808<=g/\g<=9223372036854775807)(s:BA)(tv:Value)(h1:(us.length+1) * 24<=140737488355328)(h3:(3 * us.length+3) * 24<=140737488355328)(hm:us.length<=140737488355328)(z:Int)(hz: ¬z<3):
  Calls prog 36 #[.pointer (some ⟨wb,0,none⟩),opV 3 g n m s tv,.int .i64 z] w (qw W wb V L us):=by
 have hb:Below w.heap.size w (w.alloc (opO 3 g n m s tv)).drew:=((Ou _ _).alloc (Uc _) _).drew;obtain⟨i,p,pg,pc,ho,hi,rfl,h8,h9,h5⟩:=kG (hS.later hb) hf hn g hg;have HT:Hid (Calls prog 23 #[.pointer (some ⟨p.gb,0,none⟩)] (w.alloc (opO 3 g n m s tv)).drew _):=eS (hS.later hb) hi h1 h3 hm;have hc:=qa ((hS.later hb).pairs p (OX.2 ⟨i,hi⟩)).doc.pair (j:=0) rfl;have hj:Hid (∀w1,Calls prog 75 #[.int .i64 g,.int .i64 L.length] w1 λe w'=>e=.returned (.int .i64 i)/\w'=w1):=h5;clear hS hb hi h5 h1 h3 hm;have h0:(w.alloc (opO 3 g n m s tv)).cell? ⟨wb,0,none⟩=_:=h8;have h4:(w.alloc (opO 3 g n m s tv)).cell? ⟨pg,i,none⟩=_:=h9;have h2:(w.alloc (opO 3 g n m s tv)).cell? ⟨p.pb,0,none⟩=_:=hc;unfold opO at h8 h9 h0 h4 hc h2;unfold opV;go_enter func36,ntmps36;go_wp2
 go_region_with(go_at_call 75;refine(hj.out _).mono ?_;rintro e w' ⟨rfl,rfl⟩)
 all_goals go_wp2_with(first|(go_at_call 23;refine HT.out.mono ?_;rintro e w2 ⟨vx,vn,vc,rfl,hk,hl,h6⟩;have hd:Hid (∀w2',Below w2.heap.size w2 w2'->Calls prog 77 #[.slice vx vn vc,p.r.nowV] w2' _):=h6;clear h6)|(go_at_call 77;refine(hd.out _ bl).mono ?_;rintro e w3 ⟨rfl,ha⟩;have he:Hid (∀w3',Below w3.heap.size w3 w3'->Calls prog 78 #[.pointer (some ⟨wb,0,none⟩),.slice vx vn vc] w3' _):=ha;clear ha)|(go_at_call 78;refine(he.out _ bl).mono ?_;rintro e w4 ⟨rfl,h7⟩;have HP:Hid (qw W wb V L us (.returned (.bool true)) w4):=h7;clear h7))
 all_goals (go_ret;exact HP.out)
theorem pK(hS:LA W w wb V L pv l1 l3 us ws)(h8:0<L.length)(hn:L.length<=8796093022208)(k g n m:Int)(hg: -9223372036854775808<=g/\g<=9223372036854775807)(s:BA)(tx:Option Addr)(tn tc:Nat)(z:Int)(hz: ¬z<k)(h4:4<=k)(h6:k<=6)
  (h7:Hid (∀(i:Nat) (p:PA) (w1:World),L[i]?=some p->Below w.heap.size w w1->Calls prog 79 #[.pointer (some ⟨wb,0,none⟩),.pointer (some ⟨p.pb,0,none⟩),opV k g n m s (.slice tx tn tc)] w1 (qw W wb V L us))):
  Calls prog 36 #[.pointer (some ⟨wb,0,none⟩),opV k g n m s (.slice tx tn tc),.int .i64 z] w (qw W wb V L us):=by
 have hb:Below w.heap.size w (w.alloc (opO k g n m s (.slice tx tn tc))).drew:=((Ou _ _).alloc (Uc _) _).drew;obtain⟨i,p,pg,pc,hc,hi,rfl,h3,h5,h2⟩:=kG (hS.later hb) h8 hn g hg;have HW:Hid (Calls prog 79 #[.pointer (some ⟨wb,0,none⟩),.pointer (some ⟨p.pb,0,none⟩),opV k g n m s (.slice tx tn tc)] (w.alloc (opO k g n m s (.slice tx tn tc))).drew (qw W wb V L us)):=h7.out i p _ hi hb;have h9:Hid (∀w1,Calls prog 75 #[.int .i64 g,.int .i64 L.length] w1 λe w'=>e=.returned (.int .i64 i)/\w'=w1):=h2;clear hS hb hi h2 h7;have h0:(w.alloc (opO k g n m s (.slice tx tn tc))).cell? ⟨wb,0,none⟩=_:=h3;have h1:(w.alloc (opO k g n m s (.slice tx tn tc))).cell? ⟨pg,i,none⟩=_:=h5;have ha: ¬k<1:=by omega
 have e1:(k==1)=false:=by simp;omega
 have e2:(k==2)=false:=by simp;omega
 have e3:(k==3)=false:=by simp;omega
 clear h4;unfold opO at h3 h5 h0 h1 HW;unfold opV at HW ⊢;go_enter func36,ntmps36;go_wp2
 go_region_with(go_at_call 75;refine(h9.out _).mono ?_;rintro e w' ⟨rfl,rfl⟩)
 all_goals go_wp2_with(go_at_call 79;refine HW.out.mono ?_;rintro e w' ⟨rfl,hp⟩;have HP:Hid (qw W wb V L us (.returned (.bool true)) w'):=⟨rfl,hp⟩;clear hp)
 all_goals (go_ret;exact HP.out)
theorem vG(hS:LA W w wb V L pv l1 l3 us ws)(h8:0<L.length)(hn:L.length<=8796093022208)(k g n m:Int)(hg: -9223372036854775808<=g/\g<=9223372036854775807)(s:BA)(tx:Option Addr)(tn tc:Nat)(z:Int)(hz: ¬z<k)(h7:7<=k)
  (h4:Hid (∀(i:Nat) (p:PA) (w1:World),L[i]?=some p->Below w.heap.size w w1->Calls prog 80 #[.pointer (some ⟨wb,0,none⟩),.pointer (some ⟨p.pb,0,none⟩),opV k g n m s (.slice tx tn tc)] w1 (qw W wb V L us))):
  Calls prog 36 #[.pointer (some ⟨wb,0,none⟩),opV k g n m s (.slice tx tn tc),.int .i64 z] w (qw W wb V L us):=by
 have hb:Below w.heap.size w (w.alloc (opO k g n m s (.slice tx tn tc))).drew:=((Ou _ _).alloc (Uc _) _).drew;obtain⟨i,p,pg,pc,hc,hi,rfl,h2,h3,h5⟩:=kG (hS.later hb) h8 hn g hg;have HW:Hid (Calls prog 80 #[.pointer (some ⟨wb,0,none⟩),.pointer (some ⟨p.pb,0,none⟩),opV k g n m s (.slice tx tn tc)] (w.alloc (opO k g n m s (.slice tx tn tc))).drew (qw W wb V L us)):=h4.out i p _ hi hb;have h9:Hid (∀w1,Calls prog 75 #[.int .i64 g,.int .i64 L.length] w1 λe w'=>e=.returned (.int .i64 i)/\w'=w1):=h5;clear hS hb hi h5 h4;have h1:(w.alloc (opO k g n m s (.slice tx tn tc))).cell? ⟨wb,0,none⟩=_:=h2;have h0:(w.alloc (opO k g n m s (.slice tx tn tc))).cell? ⟨pg,i,none⟩=_:=h3;have ha: ¬k<1:=by omega
 have e1:(k==1)=false:=by simp;omega
 have e2:(k==2)=false:=by simp;omega
 have e3:(k==3)=false:=by simp;omega
 have h6: ¬k<=6:=by omega
 clear h7;unfold opO at h2 h3 h1 h0 HW;unfold opV at HW ⊢;go_enter func36,ntmps36;go_wp2
 go_region_with(go_at_call 75;refine(h9.out _).mono ?_;rintro e w' ⟨rfl,rfl⟩)
 all_goals go_wp2_with(go_at_call 80;refine HW.out.mono ?_;rintro e w' ⟨rfl,hp⟩;have HP:Hid (qw W wb V L us (.returned (.bool true)) w'):=⟨rfl,hp⟩;clear hp)
 all_goals (go_ret;exact HP.out)
