import Derived.Test.YtalmoiogbdahcaaGreatARefE
import Derived.Lib.BufferWrite
open Go.Proofs.Tryz
namespace Go.Proofs.YtalmoiogbdahcaaGreat
set_option maxRecDepth 100000
set_option maxHeartbeats 8000000
open Go.RowKit
theorem Tryz.infoU8:(prog.info? 5).map (λi=>(i.zero,i.size,i.bytes))=some (some (.int .u8 0),1,1):=by kernel_rfl
theorem Tryz.infoU81:(prog.info? 5).map (·.size)=some 1:=by kernel_rfl
theorem Tryz.cellsU8:prog.cellsOf 5=1:=by kernel_rfl
theorem K5(b k:Nat):(⟨b,0,none⟩:Addr).add k=⟨b,k,none⟩:=by
 unfold Addr.add;split
 ·rename_i h;rw[h]
 ·simp
theorem fc{B:Nat}{w0 w:World}(h:Below B w0 w){g:Nat}(hg:B<=g)(n:Nat):Below B w0 (w.freeze ⟨g,0,none⟩ n):=by
 refine h.trans ?_;unfold World.freeze;split
 ·exact Ou _ _
 ·refine⟨rfl,rfl,rfl,by simp,λk hk=>?_⟩
  show(w.heap.modify g _)[k]?=_
  rw[Array.getElem?_modify,if_neg (by omega)]
theorem ZI(s:BA)(w:World)(h0:0<s.size):
  ∃W2 W3,(Builtin.copy_ #[71,9] 3 #[.slice (some ⟨w.heap.size,0,none⟩) s.size s.size,.string s]).run prog (w.alloc (.cells (madeCells #[.int .u8 0] s.size) 5))=.ok (goInt s.size) W2/\
   (s.size<=maxLen->(Builtin.unsafeString_ #[230,3] 9 #[.pointer (some ⟨w.heap.size,0,none⟩),.int .i64 s.size]).run prog W2=.ok (.string s) W3)/\Below w.heap.size w W3:=by
 obtain⟨W1,h3⟩: ∃W1,w.alloc (.cells (madeCells #[.int .u8 0] s.size) 5)=W1:=⟨_,rfl⟩;have hg:W1.heap[w.heap.size]?=some (.cells (madeCells #[.int .u8 0] s.size) 5 (0,0)):=by
  rw[←h3];show(w.heap.push _)[w.heap.size]?=_;simp
 have h6:Below w.heap.size w W1:=by rw[←h3];exact(Ou _ _).alloc (Uc _) _
 have h5:=Lib.run_copy_row_string (P:=prog) W1 71 9 3 5 w.heap.size 0 s.size s.size s _ 5 underlying71 Tryz.infoU81 hg (Uc _) (by rw[size_madeCells];omega)
 rw[h3];have hY:(((madeCells #[.int .u8 0] s.size).toList.take 0++Lib.byteCells s.data.toList++(madeCells #[.int .u8 0] s.size).toList.drop (0+s.size))).toArray=(Lib.byteCells s.data.toList).toArray:=by
  rw[List.take_zero,List.nil_append,List.drop_of_length_le (by rw[Array.length_toList,size_madeCells];omega),List.append_nil]
 rw[hY]at h5;have h2:=setRow_heap W1 w.heap.size _ (Lib.byteCells s.data.toList).toArray 5 (0,0) hg;have h1:s.data.toList.length=s.size:=by simp
 refine⟨_,(W1.setRow w.heap.size (Lib.byteCells s.data.toList).toArray).freeze ⟨w.heap.size,0,none⟩ s.size,h5,?_,?_⟩
 ·intro hm
  have h4:=Lib.run_unsafeString_row (P:=prog) (W1.setRow w.heap.size (Lib.byteCells s.data.toList).toArray) 230 3 9 5 underlying230 Tryz.cellsU8 w.heap.size s.size (by simp[World.shape?,h2,Lib.byteCells_length]) s.data.toList (by intro e;rw[e]at h1;simp at h1;omega) (by omega) (by unfold maxLen at hm;omega)
   (by
    intro j x hj;rw[K5];refine qa h2 ?_;simp[Lib.byteCells,hj])
  rw[h1]at h4;exact h4
 ·exact fc (below_setRow h6 (Uc _) _) (Uc _) _
theorem rJ(s:BA)(w:World)(hs:s.size<=140737488355328):
  Calls prog 158 #[.string s] w λe w'=>e=.returned (.string s)/\Below w.heap.size w w':=by
 by_cases h0:0<s.size
 ·obtain⟨W2,W3,r1,r2,hb⟩:=ZI s w h0
  have hm:s.size<=maxLen:=by unfold maxLen;omega
  replace r2:=r2 hm
  clear hm;have h1:=run_make_row' (P:=prog) 71 5 (.int .u8 0) 1 underlying71 Tryz.infoU8 rfl .i64 .i64 s.size (by omega) (by omega)
  have hz:((s.size:Int)==0)=false:=by rw[beq_eq_false_iff_ne];omega
  have HB:Hid (Below w.heap.size w W3):=hb;clear hb;go_enter func158,ntmps158;go_wp2;go_ret;exact⟨rfl,HB.out⟩
 ·have e:s={data:= #[]}:=ByteArray.ext (Array.eq_empty_of_size_eq_zero (show s.data.size=0 by have:s.data.size=s.size:=rfl;omega))
  subst e;go_enter func158,ntmps158;go_wp2;go_ret;exact⟨rfl,Ou _ _⟩
theorem jU(s:BA)(w:World)(hs:s.size<=140737488355328):
  Calls prog 102 #[.string s] w λe w'=>e=.returned (.string s)/\Below w.heap.size w w':=by
 go_enter func102,ntmps102
 go_wp2_with(go_at_call 158;refine(rJ s _ hs).mono ?_;rintro e w1 ⟨rfl,hb⟩)
 go_ret;exact⟨rfl,hb⟩
