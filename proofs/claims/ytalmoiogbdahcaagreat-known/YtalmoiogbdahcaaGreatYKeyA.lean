import Derived.Test.YtalmoiogbdahcaaGreatYRefA
import Derived.Test.YtalmoiogbdahcaaGreatYMapA
import Derived.Test.YtalmoiogbdahcaaGreatYFltA
import Derived.StringKeys
namespace Go.Proofs.YtalmoiogbdahcaaGreat
set_option maxRecDepth 100000
set_option maxHeartbeats 8000000
open Go.RowKit
def ndV (x : Nod) : Value := .agg #[.string x.k, .string x.n, .string x.r]
def ndC (x : Nod) : List Value := [.string x.k, .string x.n, .string x.r]
theorem ndV_inj {x y : Nod} (h : ndV x = ndV y) : x = y := by
 obtain ⟨a, b, c⟩ := x
 obtain ⟨d, e, f⟩ := y
 unfold ndV at h
 simp at h
 obtain ⟨rfl, rfl, rfl⟩ := h
 rfl
theorem Tryz.nodeRow : (75 : TypeId) < Tryz.prog.types.size := of_decide_eq_true (by kernel_rfl)
theorem Tryz.nodeAt : Tryz.prog.keyTypeAt 2 75 = true := by kernel_rfl
theorem Tryz.nodeLaw : WideMaps.KeyLaw Tryz.prog 75 := deep_law_laid Tryz.laidOutT (m := 2) (by decide) Tryz.nodeRow Tryz.nodeAt (by rw [Tryz.underlying75])
theorem Tryz.nodeKey : Tryz.prog.keyType 75 = true := by kernel_rfl
theorem Tryz.nodeCells : Tryz.prog.cellsOf 75 = 3 := by kernel_rfl
theorem node_key (k n r : ByteArray) (hk : k.size <= maxLen) (hn : n.size <= maxLen) (hr : r.size <= maxLen) : ∃ l, keyOf Tryz.prog 75 (ndV ⟨k, n, r⟩) = some l := by
 obtain ⟨q, hq⟩ := Tryz.typesN
 refine ⟨.string (keyBytes [.string k.data.toList, .string n.data.toList, .string r.data.toList]), ?_⟩
 unfold keyOf ndV
 rw [hq]
 simp [Tryz.underlying75, Tryz.nodeKey, Value.formed, Tryz.nodeCells, Program.keyLits, Value.cells, Tryz.strCells, Tryz.underlying9, hk, hn, hr]
def okNd (x : Nod) : Prop := x.k.size <= maxLen /\ x.n.size <= maxLen /\ x.r.size <= maxLen
def NodeG (v : Value) : Prop := ∃ x : Nod, v = ndV x /\ okNd x
theorem nodK_ok : KeyOk Tryz.prog 75 NodeG :=
 (KeyOk.of_law Tryz.nodeLaw).sub fun v ⟨x, e, h1, h2, h3⟩ => by rw [e]; exact node_key x.k x.n x.r h1 h2 h3
def StrG (v : Value) : Prop := ∃ s : ByteArray, v = .string s /\ s.size <= maxLen
theorem str_ok : KeyOk Tryz.prog 9 StrG :=
 (KeyOk.of_law (WideMaps.string_law Tryz.underlying9)).sub fun v ⟨s, e, h⟩ => by rw [e]; exact ⟨_, WideMaps.keyOf_string_mk Tryz.underlying9 h⟩
def cxV (i j : Nat) : Value := .complex .f64 (fb i) (fb j)
def CxG (v : Value) : Prop := ∃ i j, i < 8192 /\ j < 8192 /\ v = cxV i j
theorem floatEq_fb {a b : Nat} (ha : a < 8192) (hb : b < 8192) : Op.floatEq .f64 (fb a) (fb b) = decide (a = b) := order_fb ha hb
theorem run_equal_cx {i j a b : Nat} (hi : i < 8192) (hj : j < 8192) (ha : a < 8192) (hb : b < 8192) (w : World) : (Op.equal 136 (cxV i j) (cxV a b)).run Tryz.prog w = .ok (decide (i = a) && decide (j = b)) w := by
 unfold Op.equal Op.maxDepth cxV
 rw [show (10000 : Nat) = 9999 + 1 from rfl, Op.equalIn]
 simp only [Sem.run_bind, run_underlying Tryz.underlying136, Result.andThen, floatEq_fb hi ha, floatEq_fb hj hb]
 rfl
theorem cxV_inj {i j a b : Nat} (hi : i < 8192) (hj : j < 8192) (ha : a < 8192) (hb : b < 8192) (h : cxV i j = cxV a b) : i = a /\ j = b := by
 unfold cxV at h
 injection h with _ h1 h2
 have e1 := floatEq_fb hi ha
 have e2 := floatEq_fb hj hb
 rw [h1] at e1
 rw [h2] at e2
 have f1 := floatEq_fb ha ha
 have f2 := floatEq_fb hb hb
 rw [f1] at e1
 rw [f2] at e2
 simp at e1 e2
 exact ⟨e1, e2⟩
theorem ask_cx {i j : Nat} (hi : i < 8192) (hj : j < 8192) (w : World) : ∀ (es : List MapEntry) (n : Nat), (∀ e ∈ es, CxG e.key) ->
  ((Instr.findAsking 136 (cxV i j) es n).run Tryz.prog w = .ok none w /\ ∀ e ∈ es, e.key ≠ cxV i j) \/ ∃ q e, (Instr.findAsking 136 (cxV i j) es n).run Tryz.prog w = .ok (some (n + q, e.val)) w /\ es[q]? = some e /\ e.key = cxV i j := by
 intro es
 induction es with
 | nil => intro n _; exact Or.inl ⟨by simp [Instr.findAsking], by simp⟩
 | cons e es ih =>
  intro n h
  obtain ⟨a, b, ha, hb, he⟩ := h e (by simp)
  by_cases hab : i = a /\ j = b
  ·obtain ⟨rfl, rfl⟩ := hab
   refine Or.inr ⟨0, e, ?_, rfl, he⟩
   simp [Instr.findAsking, he, run_equal_cx hi hj hi hj, Result.andThen]
  ·have hf : (decide (i = a) && decide (j = b)) = false := by
    cases h1 : (decide (i = a) && decide (j = b))
    ·rfl
    ·simp at h1; exact absurd h1 hab
   have hrun : (Instr.findAsking 136 (cxV i j) (e :: es) n).run Tryz.prog w = (Instr.findAsking 136 (cxV i j) es (n + 1)).run Tryz.prog w := by
    rw [Instr.findAsking, he]
    simp only [Sem.run_bind, run_equal_cx hi hj ha hb, hf, Result.andThen]
    rfl
   rw [hrun]
   have hne : e.key ≠ cxV i j := by
    rw [he]; intro e1; exact hab (by have := cxV_inj ha hb hi hj e1; exact ⟨this.1.symm, this.2.symm⟩)
   rcases ih (n + 1) (fun x hx => h x (by simp [hx])) with ⟨h1, h2⟩ | ⟨q, e', h1, h2, h3⟩
   ·exact Or.inl ⟨h1, fun x hx => by
     rcases List.mem_cons.1 hx with rfl | hx
     ·exact hne
     ·exact h2 x hx⟩
   ·exact Or.inr ⟨q + 1, e', by rw [h1, show n + 1 + q = n + (q + 1) by omega], by simpa using h2, h3⟩
theorem check_cx (em : Bool) (n i j : Nat) (w : World) : (Instr.checkKey em (n + 1) 136 (cxV i j)).run Tryz.prog w = .ok () w := by
 rw [Instr.checkKey]
 simp only [Sem.run_bind, run_underlying Tryz.underlying136, Result.andThen]
 rfl
theorem cx_ok : KeyOk Tryz.prog 136 CxG where
 check := fun w em v ⟨i, j, hi, hj, e⟩ => by
  rw [e]
  exact check_cx em 9999 i j w
 find := fun w x ⟨i, j, hi, hj, e⟩ es hes => by
  rw [e]
  cases es with
  | nil => exact Or.inl ⟨by simp [Instr.findKey, run_underlying Tryz.underlying136, Instr.findNow, Result.andThen], by simp⟩
  | cons a es =>
   have hk : (Instr.findKey 136 (cxV i j) (a :: es)).run Tryz.prog w = (Instr.findAsking 136 (cxV i j) (a :: es) 0).run Tryz.prog w := by
    unfold Instr.findKey
    simp [run_underlying Tryz.underlying136, Instr.findNow, Instr.sameNow, Result.andThen]
   rw [hk]
   rcases ask_cx hi hj w (a :: es) 0 hes with h | ⟨q, e', h1, h2, h3⟩
   ·exact Or.inl h
   ·exact Or.inr ⟨q, e', by rw [h1, Nat.zero_add], h2, h3⟩
 stays := fun w v ⟨i, j, hi, hj, e⟩ => by
  rw [e]
  have h : Instr.sameBits 10000 (cxV i j) (cxV i j) = true := by unfold cxV; rw [Instr.sameBits]; simp
  unfold Instr.keyThatStays
  rw [if_pos h]
  rfl
end Go.Proofs.YtalmoiogbdahcaaGreat
