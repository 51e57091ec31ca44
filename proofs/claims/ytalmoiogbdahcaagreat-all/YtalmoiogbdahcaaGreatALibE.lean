import Derived.Test.YtalmoiogbdahcaaGreatAWrdJ
import Derived.Test.YtalmoiogbdahcaaGreatALibD
open Go.Proofs.Tryz
namespace Go.Proofs.YtalmoiogbdahcaaGreat
set_option maxRecDepth 100000
set_option maxHeartbeats 8000000
open Go.RowKit Go.Shelf
def iN(cs:List Value):Nat->List Value->List Value
 |_,[]=>cs
 |o,v::r=>iN (cs.set o v) (o+1) r
theorem pm: ∀(vs cs:List Value) (o:Nat),o+vs.length<=cs.length->iN cs o vs=cs.take o++vs++cs.drop (o+vs.length):=by
 intro vs
 induction vs with
 |nil=>intro cs o _;simp[iN]
 |cons v r ih=>
  intro cs o h;simp only[OL]at h;rw[iN,ih _ _ (by rw[OO];omega)]
  have h1:(cs.set o v).take (o+1)=cs.take o++[v]:=by
   rw[O8 (by rw[OO];omega),List.getElem_set_self,List.take_set,List.set_eq_of_length_le (by rw[OQ];omega)]
  have h2:(cs.set o v).drop (o+1+r.length)=cs.drop (o+1+r.length):=by
   rw[List.drop_set];split
   ·rfl
   ·omega
  rw[h1,h2];simp[O9,Nat.add_comm 1]
theorem dL: ∀(vs cs:List Value) (o:Nat),(iN cs o vs).length=cs.length:=by
 intro vs
 induction vs with
 |nil=>intro cs o;rfl
 |cons v r ih=>intro cs o;rw[iN,ih,OO]
theorem ZJ(cur ys:List Value)(n cap i:Nat)(x:Value)(h6:cur.length=cap)(hn:n+1<=cap)(hi:i<=n)(h5:ys.length=n)(h0:cur.take n=ys):
  (iN (iN cur (i+1) (ys.drop i)) i [x]).take (n+1)=ys.take i++[x]++ys.drop i:=by
 have hd:(ys.drop i).length=n-i:=by rw[List.length_drop,h5]
 have h1:iN cur (i+1) (ys.drop i)=cur.take (i+1)++(ys.drop i++cur.drop (n+1)):=by
  rw[pm _ _ _ (by rw[hd];omega),hd,show i+1+(n-i)=n+1 by omega,Ov]
 have h4:(cur.take (i+1)).length=i+1:=by rw[OQ];omega
 have h2:(cur.take (i+1)++(ys.drop i++cur.drop (n+1))).take i=ys.take i:=by
  rw[List.take_append_of_le_length (by rw[h4];omega),List.take_take,Nat.min_eq_left (by omega),←h0,List.take_take,Nat.min_eq_left hi]
 have h3:(cur.take (i+1)++(ys.drop i++cur.drop (n+1))).drop (i+1)=ys.drop i++cur.drop (n+1):=by
  exact List.drop_left' h4
 rw[h1,pm _ _ _ (by simp[hd];omega),h2]
 show(ys.take i++[x]++(cur.take (i+1)++(ys.drop i++cur.drop (n+1))).drop (i+1)).take (n+1)=_
 rw[h3,←Ov];have hl:(ys.take i++[x]++ys.drop i).length=n+1:=by
  rw[OK,OK,OQ,hd];simp;omega
 rw[←hl,List.take_left]
theorem X9(a z1 z2 d:List Value)(x:Value)(i n:Nat)(hi:i<=n)(ha:a.length=i)(hz:z1.length=n+1-i)(hd:d.length=n-i):iN (iN (a++z1++z2) i [x]) (i+1) d=a++[x]++d++z2:=by
 have h1:(a++z1++z2).take i=a:=by rw[Ov];exact List.take_left' ha
 have h2:(a++z1++z2).drop (i+1)=z1.drop 1++z2:=by
  rw[Ov,←Ow,List.drop_left' ha,List.drop_append_of_le_length (by omega)]
 have e1:iN (a++z1++z2) i [x]=(a++[x])++(z1.drop 1++z2):=by
  rw[pm _ _ _ (by simp;omega),h1]
  show a++[x]++(a++z1++z2).drop (i+1)=_
  rw[h2]
 have hl:(a++[x]).length=i+1:=by rw[OK,ha];rfl
 have h0:((a++[x])++z1.drop 1).length=n+1:=by rw[OK,hl,List.length_drop,hz];omega
 rw[e1,pm _ _ _ (by simp;omega),List.take_left' hl,hd,show i+1+(n-i)=n+1 by omega,←Ov (a++[x]),List.drop_left' h0]
variable{b:Nat}{fz:Nat×Nat}{t:TypeId}
theorem vX: ∀(vs cs:List Value) (o:Nat) (w:World),w.heap[b]?=some (.cells cs.toArray t fz)->(w.setCells b o vs).heap[b]?=some (.cells (iN cs o vs).toArray t fz):=by
 intro vs
 induction vs with
 |nil=>intro cs o w h;exact h
 |cons v r ih=>intro cs o w h;exact ih _ _ _ (qL h o v)
theorem kB: ∀(vs:List Value) (o:Nat) {w wr:World},w.grownBy wr (some b)->w.grownBy (wr.setCells b o vs) (some b):=by
 intro vs
 induction vs with
 |nil=>intro o w wr h;exact h
 |cons v r ih=>intro o w wr h;exact ih _ (zf h o v)
variable{w:World}
theorem ff{o:Option Obj}(h:w.heap[b]?=o):w.drew.heap[b]?=o:=h
variable{row:Option Nat}{wr:World}
theorem oR(h:w.grownBy wr row):w.grownBy wr.drew row:=⟨h.os,h.tape,h.output,h.size,h.block⟩
theorem oS(h:Below w.heap.size w wr):w.grownBy wr row:=⟨h.os,h.tape,h.output,h.size,λk hk _=>h.block k hk⟩
theorem oT(hb:w.heap.size<=b): ∀(vs:List Value) (o:Nat) {wr:World},w.grownBy wr row->w.grownBy (wr.setCells b o vs) row:=by
 intro vs
 induction vs with
 |nil=>intro o wr h;exact h
 |cons v r ih=>intro o wr h;exact ih _ (xz h hb o v)
def jV(xs:List BA)(i:Nat)(x:BA):List BA:=xs.take i++x::xs.drop i
theorem iO(xs:List BA)(i:Nat)(x:BA):(jV xs i x).length=xs.length+1:=by
 unfold jV;rw[OK,OL,OQ,List.length_drop];omega
theorem sU(xs:List BA)(n:Nat):(qg xs).take n=qg (xs.take n):=by unfold qg;rw[List.map_take]
theorem sV(xs:List BA)(n:Nat):(qg xs).drop n=qg (xs.drop n):=by unfold qg;rw[List.map_drop]
theorem dd(xs:List BA)(i:Nat)(x:BA):qg (jV xs i x)=qg (xs.take i)++[.string x]++qg (xs.drop i):=by unfold jV qg;simp
def KC(base:Nat)(v:Value)(xs:List BA)(i:Nat)(x:BA)(w:World)(e:Ending)(w':World):Prop:=
 ∃g c,e=.returned (.slice (some ⟨g,0,none⟩) (xs.length+1) c)/\w'.ownsRow base 9 1 (.slice (some ⟨g,0,none⟩) (xs.length+1) c) (xs.length+1) (qg (jV xs i x))/\w.grownBy w' v.ownBlock
theorem ZK(w:World)(base:Nat)(v:Value)(xs:List BA)(i:Nat)(hi:i<=xs.length)(x:BA)(vb:Nat)(he:w.ownsRow base 9 1 v xs.length (qg xs))(hl:xs.length<=1000)(hb:base<=w.heap.size)
  (hd:w.heap[vb]?=some (.cells [Value.string x].toArray 9 (0,0))) (hs:v.ownBlock≠some vb):
  Calls prog 101 #[v,.int .i64 i,.slice (some ⟨vb,0,none⟩) 1 1] w (KC base v xs i x w):=by
 have h9: ∀(j:Nat) (u:Value),[Value.string x][j]?=some u->w.cell? ⟨vb,0+j,none⟩=some u:=λj u hj=>by rw[Ul];exact qa hd hj
 have hc: ∀u∈[Value.string x],u.oneCell'=true:=λu hu=>by simp at hu;subst hu;rfl
 have et:Tryz.lays22_ren.t 9=9:=rfl;have ho:(Value.string (⟨#[]⟩:BA)).cells.size=1:=rfl;have h5: ∀(c:Nat) (cs:List Value),c<xs.length+1->cs=qg (jV xs i x)->xs.length+1<=grownCap w (xs.length+1) c 9-> ∀w':World,
   w'.heap[w.heap.size]?=some (.cells (cs++(Builtin.zeroCells (Value.string ⟨#[]⟩).cells (grownCap w (xs.length+1) c 9-(xs.length+1))).toList).toArray 9 (0,0))->
   w'.ownsRow base 9 1 (.slice (some ⟨w.heap.size,0,none⟩) (xs.length+1) (grownCap w (xs.length+1) c 9)) (xs.length+1) (qg (jV xs i x)):=by
  intro c cs _ h7 hk w' hh;have ht:cs.length=xs.length+1:=by rw[h7,qH,iO]
  refine⟨by rw[qH,iO,Nat.mul_one],Or.inr ⟨w.heap.size,_,_,rfl,hb,hh,hk,grownCap_le_maxLen w _ _ _ (by unfold maxLen;omega),?_,?_⟩⟩
  ·simp[ht,size_zeroCells,ho];omega
  ·rw[h7,Nat.mul_one]
   have:(qg (jV xs i x)).length=xs.length+1:=by rw[qH,iO]
   simp[←this]
 rcases he.2 with⟨rfl,h0⟩|⟨g,cap,cur,rfl,hm,hg,hn,hf,h7,h2⟩
 ·have hx:xs=[]:=Oy h0
  subst hx;have hv:i=0:=by simpa using hi
  subst hv;refine(Any2.slices_Insert_string_end_grow Tryz.lays22 none 0 0 vb 0 1 1 [] [.string x] w (by omega) (Uc _) (by omega) (by omega) rfl rfl (λ_=>rfl) (λa h=>by cases h) h9 hc).mono ?_
  rintro e w' ⟨rfl,rfl⟩;rw[et];refine⟨_,_,rfl,h5 0 [.string x] (by decide) rfl (grownCap_ge w _ _ _) _ ?_,oS ((Ou _ w).drew.alloc (Uc _) _)⟩
  show(w.heap.push _)[w.heap.size]?=_
  rw[Array.getElem?_push_size];simp
 ·have h3:cur.toList.length=cap:=by rw[Array.length_toList,h7,Nat.mul_one]
  have h6:w.heap[g]?=some (.cells cur.toList.toArray 9 (0,0)):=by rw[Oo];exact hg
  have hr:vb≠g:=λe=>hs (by simp[Value.ownBlock,e])
  rw[Nat.mul_one]at h2;have h1: ∀(j:Nat) (u:Value),(qg xs)[j]?=some u->w.cell? ⟨g,0+j,none⟩=some u:=λj u hj=>by
   rw[Ul];have hy:j<xs.length:=by have:=(OE.1 hj).1;rwa [qH]at this
   rw[←h2,OJ hy]at hj;exact qa h6 hj
  have hp: ∀u∈qg xs,u.oneCell'=true:=iM xs;have h4: ∀j,j<cap->(w.cell? ⟨g,0+j,none⟩).isSome=true:=λj hj=>by
   rw[Ul,qa h6 (OC (by omega))];rfl
  have hq: ∀j,w.frozen? ⟨g,0+j,none⟩=false:=λj=>qd h6 _;have h8:cap<=9223372036854775807:=by unfold maxLen at hf;omega
  by_cases hroom:xs.length+1<=cap
  ·by_cases hin:i<xs.length
   ·refine(Any2.slices_Insert_string_shift Tryz.lays22 g 0 xs.length cap i vb 0 1 1 (qg xs) [.string x] w hin (by omega) hroom h8 hr (qH _) rfl h1 (λj hj=>h4 j (by omega)) (λj _=>hq j) h9 hp hc 9 9 1 cap (by simp[World.shape?,hd]) (by simp[World.shape?,hg,h7]) (by omega) (qd hd _) (qd hd _)).mono ?_
    rintro e w' ⟨rfl,rfl⟩;simp only[Ul];have hA:=vX ((qg xs).drop i) cur.toList (i+1) w.drew h6;have hB:=vX [Value.string x] _ i _ hA;refine⟨g,cap,rfl,⟨by rw[qH,iO,Nat.mul_one],Or.inr ⟨g,cap,_,rfl,hm,hB,hroom,hf,?_,?_⟩⟩,kB _ _ (kB _ _ (oR (xD _ _)))⟩
    ·rw[List.size_toArray,dL,dL,h3,Nat.mul_one]
    ·rw[Nat.mul_one,dd,←sU,←sV]
     exact ZJ cur.toList (qg xs) xs.length cap i (.string x) h3 hroom hi (qH _) h2
   ·obtain rfl:i=xs.length:=by omega
    refine(Any2.slices_Insert_string_end_room Tryz.lays22 g 0 xs.length cap vb 0 1 1 [.string x] w (by omega) hroom h8 rfl (λj hj=>by have:=h4 (xs.length+j) (by omega);rwa [←O9]at this) (λj _=>by have:=hq (xs.length+j);rwa [←O9]at this) h9 hc).mono ?_
    rintro e w' ⟨rfl,rfl⟩;simp only[Ul];have hB:=vX [Value.string x] _ xs.length _ h6;refine⟨g,cap,rfl,⟨by rw[qH,iO,Nat.mul_one],Or.inr ⟨g,cap,_,rfl,hm,hB,hroom,hf,?_,?_⟩⟩,kB _ _ (xD _ _)⟩
    ·rw[List.size_toArray,dL,h3,Nat.mul_one]
    ·rw[Nat.mul_one,dd,pm _ _ _ (by simp;omega),h2,O7 (Uc _),List.drop_of_length_le (Uc _)]
     have hl:(qg xs++[Value.string x]).length=xs.length+1:=by rw[OK,qH];rfl
     rw[←hl,List.take_left];simp[qg]
  ·by_cases hin:i<xs.length
   ·refine(Any2.slices_Insert_string_grow Tryz.lays22 g 0 xs.length cap i vb 0 1 1 (qg xs) [.string x] w hin (by omega) hn (by omega) (by omega) (qH _) rfl h1 h9 hp hc).mono ?_
    rintro e w' ⟨rfl,rfl⟩;rw[et];have hk:=grownCap_ge w (xs.length+1) cap 9;refine⟨_,_,rfl,h5 cap _ (by omega) rfl hk _ ?_,oT (Uc _) _ _ (oR (oT (Uc _) _ _ (oR (oS ((Ou _ w).alloc (Uc _) _)))))⟩
    have hA:(w.alloc (.cells (((qg xs).take i++(Builtin.zeroCells (Value.string ⟨#[]⟩).cells (xs.length+1-i)).toList++(Builtin.zeroCells (Value.string ⟨#[]⟩).cells (grownCap w (xs.length+1) cap 9-(xs.length+1))).toList)).toArray 9)).drew.heap[w.heap.size]?=_:=qn w _ _;have hB:=vX [Value.string x] _ i _ hA;have hC:=vX ((qg xs).drop i) _ (i+1) _ (ff hB);rw[X9 _ _ _ _ _ i xs.length hi (by rw[OQ,qH];omega) (by rw[Array.length_toList,size_zeroCells,ho,Nat.mul_one]) (by rw[List.length_drop,qH])]at hC
    rw[dd,←sU,←sV];have e:((qg xs).take i++(Builtin.zeroCells (Value.string ⟨#[]⟩).cells (xs.length+1-i)).toList++(Builtin.zeroCells (Value.string ⟨#[]⟩).cells (grownCap w (xs.length+1) cap 9-(xs.length+1))).toList).toArray=((qg xs).take i).toArray++Builtin.zeroCells (Value.string ⟨#[]⟩).cells (xs.length+1-i)++Builtin.zeroCells (Value.string ⟨#[]⟩).cells (grownCap w (xs.length+1) cap 9-(xs.length+1)):=by simp
    rw[e]at hC;exact hC
   ·obtain rfl:i=xs.length:=by omega
    refine(Any2.slices_Insert_string_end_grow Tryz.lays22 (some ⟨g,0,none⟩) xs.length cap vb 0 1 1 (qg xs) [.string x] w (by omega) hn (by omega) (by omega) (qH _) rfl (λh=>by cases h) (λa ha j u hj=>by injection ha with ha;subst ha;rw[sh];have:=h1 j u hj;rwa [Ul]at this) h9 hc).mono ?_
    rintro e w' ⟨rfl,rfl⟩;rw[et];refine⟨_,_,rfl,h5 cap (qg xs++[.string x]) (by omega) ?_ (grownCap_ge w _ _ _) _ ?_,oS ((Ou _ w).drew.alloc (Uc _) _)⟩
    ·rw[dd,O7 (Uc _),List.drop_of_length_le (Uc _)];simp[qg]
    ·show(w.heap.push _)[w.heap.size]?=_
     rw[Array.getElem?_push_size];simp
def jW(xs:List BA)(i:Nat):List BA:=xs.take i++xs.drop (i+1)
variable{g q:Nat}
theorem ZL{cur:List Value}(hg:w.heap[g]?=some (.cells cur.toArray t fz))(d:List (List UInt8))(hd:d.length<=cur.length):
  (Sort.putRow encStr (Sort.ahead w q) g 0 d.toArray).heap[g]?=some (.cells (d.map encStr++cur.drop d.length).toArray t fz):=by
 unfold Sort.putRow Sort.mapBlock;show(w.heap.modify g _)[g]?=_
 rw[Array.getElem?_modify,if_pos rfl,hg];simp only[Option.map_some,Sort.onCells]
 congr 2
 apply Array.ext';apply List.ext_getElem?
 intro k;unfold Sort.putCells;simp only[Array.getElem?_toList,Array.getElem?_mapIdx];by_cases hk:k<d.length
 ·rw[Oz (by simpa using hk)]
  have h0:k<cur.length:=by omega
  simp[hk,h0]
 ·rw[OA (by simpa using hk)]
  by_cases h0:k<cur.length
  ·simp[hk,h0]
   rw[show d.length+(k-d.length)=k by omega,OC h0]
  ·simp[h0]
   omega
theorem fg(d:List (List UInt8)){k:Nat}(h:k≠g):(Sort.putRow encStr (Sort.ahead w q) g 0 d.toArray).heap[k]?=w.heap[k]?:=by
 unfold Sort.putRow Sort.mapBlock;show(w.heap.modify g _)[k]?=_
 rw[Array.getElem?_modify,if_neg (λe=>h e.symm)]
theorem ZM(w:World)(base g cap:Nat)(xs:List BA)(i:Nat)(hi:i<xs.length)(h4:w.ownsRow base 9 1 (.slice (some ⟨g,0,none⟩) xs.length cap) xs.length (qg xs)):
  Calls prog 103 #[.slice (some ⟨g,0,none⟩) xs.length cap,.int .i64 i,.int .i64 ((i+1:Nat):Int)] w λe w'=>e=.returned (.slice (some ⟨g,0,none⟩) (xs.length-1) cap)/\
   w'.ownsRow base 9 1 (.slice (some ⟨g,0,none⟩) (xs.length-1) cap) (xs.length-1) (qg (jW xs i))/\w.grownBy w' (some g):=by
 rcases h4.2 with⟨hv,-⟩|⟨g',cap',cur,hv,hd,hg,ha,h9,hf,h2⟩
 ·cases hv
 ·simp only[Value.slice.injEq,Option.some.injEq,Addr.mk.injEq]at hv
  obtain⟨⟨rfl,-,-⟩,-,rfl⟩:=hv;have h6:w.heap[g]?=some (.cells cur.toList.toArray 9 (0,0)):=by rw[Oo];exact hg
  have h0:cur.toList.length=cap:=by rw[Array.length_toList,hf,Nat.mul_one]
  rw[Nat.mul_one]at h2;have h7:(xs.map λx:BA=>x.data.toList).length=xs.length:=OM _;have hH:Sort.Holds encStr w g 0 (xs.map λx:BA=>x.data.toList).toArray:=by
   intro j hj;simp at hj;refine⟨?_,qd h6 _⟩;rw[Ul];refine qa h6 ?_;have h1:(qg xs)[j]?=some (.string xs[j]):=by simp[qg,hj]
   rw[←h2,OJ hj]at h1;rw[h1];simp[hj,encStr]
  have hc:=Any.slices_Delete_string Tryz.lays24 g 0 cap i (i+1) (xs.map λx:BA=>x.data.toList) w hH (by rw[h7];exact ha) (by unfold maxLen at h9;omega) (Ud i) (by rw[h7];omega)
  rw[h7]at hc;refine hc.mono ?_;rintro e w' ⟨rfl,q,rfl⟩;have e1:i+1-i=1:=by omega
  rw[e1];have hb:((xs.map λx:BA=>x.data.toList).take i++(xs.map λx:BA=>x.data.toList).drop (i+1)++List.replicate 1 []).length=xs.length:=by
   simp;omega
  have h5:=ZL (q:=q) h6 ((xs.map λx:BA=>x.data.toList).take i++(xs.map λx:BA=>x.data.toList).drop (i+1)++List.replicate 1 []) (by rw[hb,h0];exact ha)
  have h3:(jW xs i).length=xs.length-1:=by unfold jW;simp;omega
  have h8:((xs.map λx:BA=>x.data.toList).take i++(xs.map λx:BA=>x.data.toList).drop (i+1)).map encStr=qg (jW xs i):=by
   unfold jW qg;rw[←List.map_take,←List.map_drop,←OR,List.map_map]
   rfl
  refine⟨rfl,⟨by rw[qH,h3,Nat.mul_one],Or.inr ⟨g,cap,_,rfl,hd,h5,by omega,h9,?_,?_⟩⟩,⟨rfl,rfl,rfl,by simp,λk _ he=>fg _ (λe=>he (by rw[e]))⟩⟩
  ·rw[List.size_toArray,OK,OM,List.length_drop,hb,h0];omega
  ·rw[Nat.mul_one,OR,h8,Ov]
   have hl:(qg (jW xs i)).length=xs.length-1:=by rw[qH,h3]
   rw[←hl,List.take_left]
