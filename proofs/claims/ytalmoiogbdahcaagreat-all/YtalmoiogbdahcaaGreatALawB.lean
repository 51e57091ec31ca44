import Derived.Test.YtalmoiogbdahcaaGreatALawA
import Derived.Laws.CopyOwn
import Derived.Deep.OwnRows
open Go.Proofs.Tryz
namespace Go.Proofs.YtalmoiogbdahcaaGreat
set_option maxRecDepth 100000
set_option maxHeartbeats 8000000
open Go.RowKit
variable{cs:List Value}{fz:Nat×Nat}{g j:Nat}{t:TypeId}{u:Value}{w:World}
theorem qa(h:w.heap[g]?=some (.cells cs.toArray t fz))(hj:cs[j]?=some u):w.cell? ⟨g,j,none⟩=some u:=by
 simp[World.cell?,h,hj]
theorem qd(h:w.heap[g]?=some (.cells cs.toArray t (0,0)))(j:Nat):w.frozen? ⟨g,j,none⟩=false:=by
 simp[World.frozen?,h]
theorem qL(h:w.heap[g]?=some (.cells cs.toArray t fz))(j:Nat)(u:Value):(w.setCell ⟨g,j,none⟩ u).heap[g]?=some (.cells (cs.set j u).toArray t fz):=by
 simp only[World.setCell,Array.getElem?_modify];rw[h];simp
def qg(xs:List BA):List Value:=xs.map Value.string
theorem x4{xs:List BA}{x:BA}(h:xs[j]?=some x):(qg xs)[j]?=some (.string x):=by simp[qg,h]
theorem gh(xs:List BA)(j:Nat)(x:BA):(qg xs).set j (.string x)=qg (xs.set j x):=by simp[qg,List.map_set]
theorem i5(xs ys:List BA):qg (xs++ys)=qg xs++qg ys:=by simp[qg]
theorem qH(xs:List BA):(qg xs).length=xs.length:=by simp[qg]
theorem iM(xs:List BA): ∀v∈qg xs,v.oneCell'=true:=by
 intro v hv;simp only[qg,OY]at hv;obtain⟨x,-,rfl⟩:=hv
 rfl
def zK(w:World)(g:Nat)(xs:List BA):Prop:=w.heap[g]?=some (.cells (qg xs).toArray 9 (0,0))
def zQ:BA:={data:= #[109,97,114,107]}
def jo:BA:={data:= #[43,119,114,105,116,116,101,110,35,111,118,101,114,64,98,121,58,117,115]}
def uK:BA:={data:= #[]}
theorem Tryz.infoStr:(prog.info? 9).map (λi=>(i.zero,i.size,i.bytes))=some (some (.string {data:= #[]}),1,16):=by kernel_rfl
theorem Tryz.infoStr1:(prog.info? 9).map (·.size)=some 1:=by kernel_rfl
theorem sT(n:Nat):(madeCells #[.string {data:= #[]}] n)=(qg (List.replicate n uK)).toArray:=by
 apply Array.ext';apply List.ext_getElem
 ·simp[madeCells,qg]
 ·intro i h1 h2
  simp[madeCells,qg,uK,Nat.mod_one]
theorem gp(w:World):
  Calls prog 68 #[.slice none 0 0] w λe w'=>e=.returned (.slice none 0 0)/\w'=w:=by
 have hq:=fun(w:World) (a:Option Addr) (n c n' c':Nat)=>Lib.run_eql_slice_nil (P:=prog) w 28 9 a n c n' c' underlying28;go_enter func68,ntmps68;go_wp2;go_ret;exact⟨rfl,rfl⟩
theorem X6(b off cap:Nat)(xs:List BA)(w:World)(hc: ∀i x,xs[i]?=some x->w.cell? ⟨b,off+i,none⟩=some (.string x))(n:Nat)(hn:xs.length=n):
  ∃W2,(Builtin.copy_ #[28,28] 3 #[.slice (some ⟨w.heap.size,0,none⟩) (n+8) (n+8),.slice (some ⟨b,off,none⟩) n cap]).run prog (w.alloc (.cells (madeCells #[.string {data:= #[]}] (n+8)) 9))=.ok (goInt n) W2/\
   zK W2 w.heap.size (xs++List.replicate 8 uK)/\Below w.heap.size w W2:=by
 have hg:(w.alloc (.cells (madeCells #[.string {data:= #[]}] (n+8)) 9)).heap[w.heap.size]?=some (.cells (qg (List.replicate (n+8) uK)).toArray 9 (0,0)):=by
  rw[sT];show(w.heap.push _)[w.heap.size]?=_
  simp
 have h0: ∀j v,(qg xs)[j]?=some v->(w.alloc (.cells (madeCells #[.string {data:= #[]}] (n+8)) 9)).cell? ((⟨b,off,none⟩:Addr).add j)=some v:=by
  intro j v hj;simp only[qg,OF,Un]at hj;obtain⟨x,hx,rfl⟩:=hj;have h1:=hc j x hx;have hb:b<w.heap.size:=by
   rcases Uh b w.heap.size with h|h
   ·exact h
   ·simp[World.cell?,Array.getElem?_eq_none h]at h1
  rw[←h1];rw[show(⟨b,off,none⟩:Addr).add j=⟨b,off+j,none⟩ by simp[Addr.add]]
  exact((Ou w.heap.size w).alloc (Uc _) _).cell (p:=⟨b,off+j,none⟩) hb
 have h:=run_copy_row (P:=prog) (w.alloc (.cells (madeCells #[.string {data:= #[]}] (n+8)) 9)) 28 28 3 9 w.heap.size 0 (n+8) (n+8) ⟨b,off,none⟩ n cap _ 9 (qg xs) underlying28 Tryz.infoStr1 hg (by rw[qH,hn];exact(Nat.min_eq_left (by omega)).symm) h0 (by simp[qH];omega) (iM _)
 refine⟨_,by rw[h,qH,hn],?_,?_⟩
 ·unfold zK
  rw[setRow_heap _ _ _ _ _ _ hg];refine congrArg some ?_;refine congrArg (λx=>Obj.cells x 9 (0,0)) ?_;refine congrArg List.toArray ?_;simp only[List.take_zero,List.nil_append,Ul,i5];refine congrArg (qg xs++ ·) ?_;simp only[qg,List.map_replicate,List.drop_replicate];rw[show n+8-n=8 by omega]
 ·exact below_setRow ((Ou w.heap.size w).alloc (Uc _) _) (Uc _) _
theorem gt(b off cap:Nat)(xs:List BA)(w:World)(hc: ∀i x,xs[i]?=some x->w.cell? ⟨b,off+i,none⟩=some (.string x))(hl:xs.length<=8796093022208):
  Calls prog 68 #[.slice (some ⟨b,off,none⟩) xs.length cap] w λe w'=>e=.returned (.slice (some ⟨w.heap.size,0,none⟩) (xs.length+8) (xs.length+8))/\zK w' w.heap.size (xs++List.replicate 8 zQ)/\Below w.heap.size w w':=by
 obtain⟨n,hn⟩: ∃n,xs.length=n:=⟨_,rfl⟩;have HX:Hid (xs.length=n):=hn;rw[hn]at hl ⊢;clear hn;have h3:=run_make_row' (P:=prog) 28 9 (.string {data:= #[]}) 16 underlying28 Tryz.infoStr rfl .i64 .i64 (n+8) (by omega) (by omega)
 have hq:=fun(w:World) (a:Option Addr) (n c n' c':Nat)=>Lib.run_eql_slice_nil (P:=prog) w 28 9 a n c n' c' underlying28;obtain⟨W2,h6,h0,h1⟩:=X6 b off cap xs w hc n HX.out;have ec:((n+8:Nat):Int)=(n:Int)+8:=by omega
 rw[ec]at h3;clear ec;go_enter func68,ntmps68;go_wp2
 go_loopw [5] (λi wr=> ∃k:Nat,k<=8/\i=.int .i64 ((n:Int)+k)/\zK wr w.heap.size (xs++(List.replicate k zQ++List.replicate (8-k) uK))/\Below w.heap.size w wr) (λi _=>n+8-(intOf i).toNat)
 case atStart=>exact⟨0,by omega,by go_num,h0,h1⟩
 case round=>
  obtain⟨k,hk,rfl,hr,hb⟩:=hrel;clear h0 h1 h6 h3;by_cases hlt:k<8
  ·have h5:=HX.out
   have h8:wr.cell? ⟨w.heap.size,n+k,none⟩=some (.string uK):=by
    refine qa hr (x4 ?_);rw[OA (by omega),OA (by simp;omega),OG,if_pos (by simp;omega)]
   have h7:wr.frozen? ⟨w.heap.size,n+k,none⟩=false:=qd hr _;have h4:zK (wr.setCell ⟨w.heap.size,n+k,none⟩ (.string zQ)) w.heap.size (xs++(List.replicate (k+1) zQ++List.replicate (8-(k+1)) uK)):=by
    unfold zK at hr ⊢;rw[qL hr,gh]
    congr 4
    rw[List.set_append_right _ _ (by omega),h5,Nat.add_sub_cancel_left,List.set_append_right _ _ (by simp),ON,Uk,List.replicate_succ',Ov]
    congr 2
    rw[show 8-k=(8-(k+1))+1 by omega,List.replicate_succ];rfl
   have h2:=hb.setCell (p:=⟨w.heap.size,n+k,none⟩) (Uc _) (.string zQ);have HB:Hid (zK (wr.setCell ⟨w.heap.size,n+k,none⟩ (.string zQ)) w.heap.size (xs++(List.replicate (k+1) zQ++List.replicate (8-(k+1)) uK))/\Below w.heap.size w (wr.setCell ⟨w.heap.size,n+k,none⟩ (.string zQ))):=⟨h4,h2⟩;clear h4 h2 hr hb h5;go_wp2
   go_roundw
   case rel=>exact⟨k+1,by omega,by go_num,HB.out.1,HB.out.2⟩
   case measure=>simp[intOf];omega
  ·obtain rfl:k=8:=by omega
   go_wp2;go_ret;exact⟨rfl,by simpa using hr,hb⟩
theorem xD(w:World)(row:Option Nat):w.grownBy w row:=⟨rfl,rfl,rfl,Uc _,λ_ _ _=>rfl⟩
variable{wr:World}
theorem zf(h:w.grownBy wr (some g))(j:Nat)(u:Value):w.grownBy (wr.setCell ⟨g,j,none⟩ u) (some g):=
 ⟨h.os,h.tape,h.output,by simpa[World.setCell]using h.size,λk hk hne=>by
  rw[Ot _ _ _ _ (by intro e;exact hne (by rw[e]))];exact h.block k hk hne⟩
variable{b o:Nat}
theorem X7(h:w.grownBy wr (some g))(hb:b<w.heap.size)(hne:b≠g):wr.cell? ⟨b,o,none⟩=w.cell? ⟨b,o,none⟩:=
 World.cell?_of_block (h.block b hb (by intro e;exact hne (by simpa using e)))
theorem qp(h:w.cell? ⟨b,o,none⟩=some u):b<w.heap.size:=by
 rcases Uh b w.heap.size with h1|h1
 ·exact h1
 ·simp[World.cell?,Array.getElem?_eq_none h1]at h
theorem qc{o:Obj}(h:w.heap[g]?=some o):g<w.heap.size:=(Array.getElem?_eq_some_iff.1 h).1
theorem oP(w:World):
  Calls prog 69 #[.slice none 0 0,.slice none 0 0] w λe w'=>e=.returned (.bool true)/\w'=w:=by
 go_enter func69,ntmps69;go_wp2;refine wp_loop_rounds 1 ?_;rw[rounds_succ];go_wp2;go_ret;exact⟨rfl,rfl⟩
theorem fa(xs:List BA)(k:Nat)(h:k<xs.length):(List.replicate k jo++xs.drop k).set k jo=List.replicate (k+1) jo++xs.drop (k+1):=by
 rw[List.set_append_right _ _ (by simp),ON,Uk,List.drop_eq_getElem_cons h,List.replicate_succ',Ov]
 rfl
theorem oQ(b off cap g:Nat)(xs:List BA)(w:World)(hc: ∀i x,xs[i]?=some x->w.cell? ⟨b,off+i,none⟩=some (.string x))(h5:b≠g)(hl:xs.length<=8796093022208)(h2:zK w g (xs++List.replicate 8 zQ)):
  Calls prog 69 #[.slice (some ⟨g,0,none⟩) (xs.length+8) (xs.length+8),.slice (some ⟨b,off,none⟩) xs.length cap] w λe w'=>e=.returned (.bool true)/\w.grownBy w' (some g):=by
 obtain⟨n,hn⟩: ∃n,xs.length=n:=⟨_,rfl⟩;have HX:Hid (xs.length=n):=hn;rw[hn]at hl ⊢;clear hn;have HR:Hid (zK w g (List.replicate 0 jo++(xs++List.replicate 8 zQ).drop 0)):=h2;clear h2;go_enter func69,ntmps69;go_wp2
 go_loopw [5] (λi wr=> ∃k:Nat,k<=n+8/\i=.int .i64 k/\zK wr g (List.replicate k jo++(xs++List.replicate 8 zQ).drop k)/\w.grownBy wr (some g)) (λi _=>n+8-(intOf i).toNat)
 case atStart=>exact⟨0,by omega,rfl,HR.out,xD _ _⟩
 case round=>
  obtain⟨k,hk,rfl,hr,hb⟩:=hrel;by_cases hlt:k<n+8
  ·have h4:=HX.out
   have h0:k<(xs++List.replicate 8 zQ).length:=by simp;omega
   obtain⟨y,hy⟩: ∃y,(xs++List.replicate 8 zQ)[k]=y:=⟨_,rfl⟩;have h9:wr.cell? ⟨g,k,none⟩=some (.string y):=by
    refine qa hr (x4 ?_);rw[OA (by simp),ON,Uk,OB,Ua,OC h0,hy]
   have h8:wr.frozen? ⟨g,k,none⟩=false:=qd hr _;have HB:Hid (zK (wr.setCell ⟨g,k,none⟩ (.string jo)) g (List.replicate (k+1) jo++(xs++List.replicate 8 zQ).drop (k+1))/\w.grownBy (wr.setCell ⟨g,k,none⟩ (.string jo)) (some g)):=by
    refine⟨?_,zf hb k _⟩;unfold zK at hr ⊢;rw[qL hr,gh,fa _ _ h0]
   by_cases hkn:k<n
   ·have h3:xs[k]?=some y:=by
     rw[OC (by omega)]
     rw[List.getElem_append_left (by omega)]at hy
     rw[hy]
    have ha:wr.cell? ⟨b,off+k,none⟩=some (.string y):=by
     have h1:=hc k y h3;rw[X7 hb (qp h1) h5];exact h1
    clear hr hb h4 hc hy h0 h3 HR;have h6:(y.toList==y.toList)=true:=by simp
    go_wp2
    go_roundw
    case rel=>exact⟨k+1,by omega,by go_num,HB.out.1,HB.out.2⟩
    case measure=>simp[intOf];omega
   ·have h7:y=zQ:=by
     rw[List.getElem_append_right (by omega),List.getElem_replicate]at hy
     exact hy.symm
    subst h7;have h6:(zQ.toList==[109,97,114,107])=true:=by rw[show zQ.toList=[109,97,114,107] by rw[Lib.toList_data];rfl];rfl
    clear hr hb h4 hc hy h0 HR;go_wp2
    go_roundw
    case rel=>exact⟨k+1,by omega,by go_num,HB.out.1,HB.out.2⟩
    case measure=>simp[intOf];omega
  ·obtain rfl:k=n+8:=by omega
   clear hc HR hr;go_wp2;go_ret;exact⟨rfl,hb⟩
def lE(w:World)(v:Value)(us:List Value):Prop:=
 (v=.slice none 0 0/\us=[])\/ ∃b cap,v=.slice (some ⟨b,0,none⟩) us.length cap/\ ∀i u,us[i]?=some u->w.cell? ⟨b,i,none⟩=some u
def ue(w:World)(b:Nat)(ps l1 l3:Value):Prop:=w.heap[b]?=some (.cells [ps,l1,l3].toArray 61 (0,0))
def pk(w:World)(v:Value)(m:BA):Prop:= ∃xs,qE w v xs/\xs.length<=maxLen/\jB xs m=true
theorem gu(v:Value)(m:BA)(w:World)(h:pk w v m):Calls prog 82 #[v,.string m] w λe w'=>e=.returned (.bool true)/\w'=w:=by
 obtain⟨xs,h1,h2,h3⟩:=h;have:=JL v xs m w h1 h2;rw[h3]at this;exact this
theorem X8(b:Nat)(ps l1 l3:Value)(us ws:List Value)(w:World)(hw:ue w b ps l1 l3)(h1:lE w l1 us)(h3:lE w l3 ws)(hl:ws.length=3 * us.length)(hm:us.length<=140737488355328)
  (hf: ∀k u,us[k]?=some u->pk w u (zr k)) (h0: ∀k j u,k<us.length->j<3->ws[3 * k+j]?=some u->pk w u (zr k)):
  Calls prog 37 #[.pointer (some ⟨b,0,none⟩)] w λe w'=>e=.returned (.bool true)/\w'=w:=by
 have c1:w.cell? ⟨b,1,none⟩=some l1:=qa hw rfl;have c2:w.cell? ⟨b,2,none⟩=some l3:=qa hw rfl;clear hw;rcases h1 with⟨rfl,rfl⟩|⟨b1,cap1,rfl,h5⟩
 ·go_enter func37,ntmps37
  go_wp2;refine wp_loop_rounds 1 ?_;rw[rounds_succ];go_wp2;go_ret;exact⟨rfl,rfl⟩
 ·obtain⟨m,h4⟩: ∃m,us.length=m:=⟨_,rfl⟩
  have HX:Hid (us.length=m):=h4;rw[h4]at c1 hm hl h0;have H3:Hid (lE w l3 ws/\ws.length=3 * m):=⟨h3,hl⟩;clear h4 h3 hl;go_enter func37,ntmps37;go_wp2
  go_loop [3] (λi=> ∃k:Nat,k<=m/\i=.int .i64 k) (λi=>m-(intOf i).toNat)
  case atStart=>exact⟨0,Um _,rfl⟩
  case round=>
   obtain⟨k,hk,rfl⟩:=hrel;by_cases hlt:k<m
   ·have h9:k<us.length:=by have:=HX.out;omega
    obtain⟨u,hu⟩: ∃u,us[k]?=some u:=⟨_,OC h9⟩;have d0:=h5 k u hu;have hc:=gu u (zr k) w (hf k u hu);rcases H3.out with⟨⟨-,e0⟩|⟨b3,cap3,e3,h2⟩,e4⟩
    ·rw[e0]at e4;simp at e4;omega
    ·rw[e4]at e3
     obtain⟨v0,h8⟩: ∃u,ws[3 * k+0]?=some u:=⟨_,OC (by omega)⟩
     obtain⟨v1,h7⟩: ∃u,ws[3 * k+1]?=some u:=⟨_,OC (by omega)⟩
     obtain⟨v2,h6⟩: ∃u,ws[3 * k+2]?=some u:=⟨_,OC (by omega)⟩
     have d1:w.cell? ⟨b3,3 * k,none⟩=some v0:=h2 _ _ h8;have d2:=h2 _ _ h7;have d3:=h2 _ _ h6;have hb:=gu v0 (zr k) w (h0 k 0 v0 hlt (by omega) h8)
     have ha:=gu v1 (zr k) w (h0 k 1 v1 hlt (by omega) h7)
     have hd:=gu v2 (zr k) w (h0 k 2 v2 hlt (by omega) h6)
     have he:=λw=>dK k w (by omega)
     subst e3;clear h8 h7 h6 h2 hf h0 hu h5 h9 e4;generalize zr k=sk at *
     go_wp2_with(first|(go_at_call 81;refine(he _).mono ?_;rintro e w' ⟨rfl,rfl⟩)|(go_at_call 82;refine hc.mono ?_;clear hc;rintro e w' ⟨rfl,rfl⟩)|(go_at_call 82;refine hb.mono ?_;clear hb;rintro e w' ⟨rfl,rfl⟩)|(go_at_call 82;refine ha.mono ?_;clear ha;rintro e w' ⟨rfl,rfl⟩)|(go_at_call 82;refine hd.mono ?_;rintro e w' ⟨rfl,rfl⟩))
     go_round
     case rel=>exact⟨k+1,by omega,by go_num⟩
     case measure=>simp[intOf];omega
   ·obtain rfl:k=m:=by omega
    clear h5 hf h0;go_wp2;go_ret;exact⟨rfl,rfl⟩
