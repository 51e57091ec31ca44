import Derived.Test.YtalmoiogbdahcaaGreatYMapA
import Derived.Test.YtalmoiogbdahcaaGreatYRefI
import Derived.Maps.AppendAt
namespace Go.Proofs.YtalmoiogbdahcaaGreat
set_option maxRecDepth 100000
set_option maxHeartbeats 8000000
open Go.RowKit
structure Frm (X : Nat -> Prop) (w w' : World) : Prop where
 os : w'.os = w.os
 tape : w'.tape = w.tape
 output : w'.output = w.output
 size : w.heap.size <= w'.heap.size
 block : ∀ k, k < w.heap.size -> ¬ X k -> w'.heap[k]? = w.heap[k]?
theorem Frm.refl (X : Nat -> Prop) (w : World) : Frm X w w := ⟨rfl, rfl, rfl, Nat.le_refl _, fun _ _ _ => rfl⟩
theorem Frm.trans {X Y : Nat -> Prop} {a b c : World} (h : Frm X a b) (k : Frm Y b c) (hy : ∀ j, j < a.heap.size -> Y j -> X j) : Frm X a c :=
 ⟨k.os.trans h.os, k.tape.trans h.tape, k.output.trans h.output, Nat.le_trans h.size k.size, fun j hj hx => (k.block j (Nat.lt_of_lt_of_le hj h.size) (fun e => hx (hy j hj e))).trans (h.block j hj hx)⟩
theorem Frm.mono {X Y : Nat -> Prop} {w w' : World} (h : Frm X w w') (hy : ∀ j, j < w.heap.size -> X j -> Y j) : Frm Y w w' :=
 ⟨h.os, h.tape, h.output, h.size, fun j hj hx => h.block j hj fun e => hx (hy j hj e)⟩
theorem Frm.of_below {X : Nat -> Prop} {w w' : World} (h : Below w.heap.size w w') : Frm X w w' := ⟨h.os, h.tape, h.output, h.size, fun k hk _ => h.block k hk⟩
theorem Frm.of_grown {X : Nat -> Prop} {w w' : World} {row : Option Nat} (h : w.grownBy w' row) (hx : ∀ k, row = some k -> X k) : Frm X w w' :=
 ⟨h.os, h.tape, h.output, h.size, fun k hk hn => h.block k hk fun e => hn (hx k e.symm)⟩
theorem Frm.below {X : Nat -> Prop} {B : Nat} {a w w' : World} (hb : Below B a w) (h : Frm X w w') (hB : B <= w.heap.size) (hx : ∀ k, k < w.heap.size -> X k -> B <= k) : Below B a w' :=
 hb.trans ⟨h.os, h.tape, h.output, h.size, fun k hk => h.block k (Nat.lt_of_lt_of_le hk hB) fun e => by have := hx k (Nat.lt_of_lt_of_le hk hB) e; omega⟩
section
variable {α : Type} [DecidableEq α]
def addN (vs : List α) (v : α) : List α := if v ∈ vs then vs else vs ++ [v]
theorem mem_addN {vs : List α} {v a : α} : a ∈ addN vs v ↔ a ∈ vs \/ a = v := by
 unfold addN
 split
 ·rename_i h
  exact ⟨Or.inl, fun e => e.elim id fun e => e ▸ h⟩
 ·simp
theorem addN_nodup {vs : List α} (h : vs.Nodup) (v : α) : (addN vs v).Nodup := by
 unfold addN
 split
 ·exact h
 ·rename_i hv
  rw [List.nodup_append]
  refine ⟨h, by simp, fun a ha b hb e => ?_⟩
  simp at hb
  subst hb; subst e; exact hv ha
theorem addN_prefix (vs : List α) (v : α) : vs <+: addN vs v := by
 unfold addN
 split
 ·exact List.prefix_refl _
 ·exact List.prefix_append _ _
theorem addN_new {vs : List α} {v : α} (h : v ∉ vs) : (addN vs v).idxOf v = vs.length := by
 unfold addN
 rw [if_neg h, List.idxOf_append, if_neg h, List.idxOf_cons_self]
 omega
theorem addN_len (vs : List α) (v : α) : (addN vs v).length <= vs.length + 1 := by
 unfold addN; split
 ·omega
 ·simp
theorem idx_cons {a v : α} {l : List α} (h : ¬ a = v) : (a :: l).idxOf v = l.idxOf v + 1 := by
 rw [List.idxOf_cons]
 have : (a == v) = false := by simpa using h
 rw [this]; rfl
def numF (enc : α -> Value) : Nat -> List α -> List (Value × Value)
 | _, [] => []
 | n, a :: l => (enc a, .int .i64 n) :: numF enc (n + 1) l
def numM (enc : α -> Value) (vs : List α) : List (Value × Value) := numF enc 0 vs
omit [DecidableEq α] in
theorem numF_append (enc : α -> Value) : ∀ (vs : List α) (n : Nat) (v : α), numF enc n (vs ++ [v]) = numF enc n vs ++ [(enc v, .int .i64 (n + vs.length : Nat))] := by
 intro vs
 induction vs with
 | nil => intro n v; simp [numF]
 | cons a l ih => intro n v; rw [List.cons_append, numF, ih, numF, List.cons_append, List.length_cons, Nat.add_right_comm, Nat.add_assoc]
theorem numF_get (enc : α -> Value) (v : α) : ∀ (vs : List α) (n : Nat), (∀ a ∈ vs, enc a = enc v -> a = v) -> getM (numF enc n vs) (enc v) = if v ∈ vs then some (.int .i64 (n + vs.idxOf v : Nat)) else none := by
 intro vs
 induction vs with
 | nil => intro n _; rw [numF, getM_nil, if_neg (by simp)]
 | cons a l ih =>
  intro n h
  rw [numF]
  classical
  by_cases e : a = v
  ·subst e
   rw [if_pos (by simp), List.idxOf_cons_self]
   unfold getM
   simp
  ·have hne : enc a ≠ enc v := fun e' => e (h a (by simp) e')
   have := ih (n + 1) (fun b hb => h b (by simp [hb]))
   have hg : getM ((enc a, Value.int .i64 n) :: numF enc (n + 1) l) (enc v) = getM (numF enc (n + 1) l) (enc v) := by
    unfold getM
    rw [List.find?_cons_of_neg (by simpa using hne)]
   rw [hg, this]
   have e2 : ¬ v = a := fun e' => e e'.symm
   by_cases hv : v ∈ l
   ·rw [if_pos hv, if_pos (by simp [hv]), idx_cons e, Nat.add_right_comm, Nat.add_assoc]
   ·rw [if_neg hv, if_neg (by simp [hv, e2])]
theorem numM_get {enc : α -> Value} {vs : List α} {v : α} (h : ∀ a ∈ vs, enc a = enc v -> a = v) : getM (numM enc vs) (enc v) = if v ∈ vs then some (.int .i64 (vs.idxOf v : Nat)) else none := by
 have := numF_get enc v vs 0 h
 rw [Nat.zero_add] at this
 exact this
end
structure NumAt {α : Type} (enc : α -> Value) (cl : α -> List Value) (Gd : Value -> Prop) (tN tE : TypeId) (size : Nat) (w : World) (lo nb mb : Nat) (sv : Value) (vs : List α) : Prop where
 blk : w.heap[nb]? = some (.cells [.map (some mb), sv].toArray tN (0, 0))
 map : MapAt w Gd mb (numM enc vs)
 row : w.ownsRow lo tE size sv vs.length (vs.flatMap cl)
 nd : vs.Nodup
 lob : lo <= nb
 lom : lo <= mb
def numX (nb mb : Nat) (sv : Value) (k : Nat) : Prop := k = nb \/ k = mb \/ sv.ownBlock = some k
theorem NumAt.keep {α : Type} {enc : α -> Value} {cl : α -> List Value} {Gd : Value -> Prop} {tN tE : TypeId} {size : Nat} {w w' : World} {lo nb mb : Nat} {sv : Value} {vs : List α} (h : NumAt enc cl Gd tN tE size w lo nb mb sv vs) {X : Nat -> Prop} (hf : Frm X w w') (hx : ∀ k, numX nb mb sv k -> ¬ X k) : NumAt enc cl Gd tN tE size w' lo nb mb sv vs :=
 ⟨(hf.block nb (row_lt h.blk) (hx _ (Or.inl rfl))).trans h.blk, h.map.move (hf.block mb h.map.lt (hx _ (Or.inr (Or.inl rfl)))), owns_to h.row fun g hg => hf.block g (owns_lt h.row g hg).1 (hx _ (Or.inr (Or.inr hg))), h.nd, h.lob, h.lom⟩
theorem NumAt.lt {α : Type} {enc : α -> Value} {cl : α -> List Value} {Gd : Value -> Prop} {tN tE : TypeId} {size : Nat} {w : World} {lo nb mb : Nat} {sv : Value} {vs : List α} (h : NumAt enc cl Gd tN tE size w lo nb mb sv vs) {k : Nat} (hk : numX nb mb sv k) : k < w.heap.size /\ lo <= k := by
 rcases hk with rfl | rfl | hk
 ·exact ⟨row_lt h.blk, h.lob⟩
 ·exact ⟨h.map.lt, h.lom⟩
 ·exact ⟨(owns_lt h.row k hk).1, (owns_lt h.row k hk).2.1⟩
theorem NumAt.kind {α : Type} {enc : α -> Value} {cl : α -> List Value} {Gd : Value -> Prop} {tN tE : TypeId} {size : Nat} {w : World} {lo nb mb : Nat} {sv : Value} {vs : List α} (h : NumAt enc cl Gd tN tE size w lo nb mb sv vs) {k : Nat} (hk : numX nb mb sv k) {cur : Array Value} {t : TypeId} (hc : w.heap[k]? = some (.cells cur t (0, 0))) : t = tN \/ t = tE := by
 rcases hk with rfl | rfl | hk
 ·rw [h.blk] at hc; injection hc with hc; injection hc with _ hc; exact Or.inl hc.symm
 ·obtain ⟨es, c, h1, -⟩ := h.map; rw [h1] at hc; injection hc with hc; cases hc
 ·obtain ⟨-, -, cur', h1⟩ := owns_lt h.row k hk; rw [h1] at hc; injection hc with hc; injection hc with _ hc; exact Or.inr hc.symm
theorem NumAt.kindM {α : Type} {enc : α -> Value} {cl : α -> List Value} {Gd : Value -> Prop} {tN tE : TypeId} {size : Nat} {w : World} {lo nb mb : Nat} {sv : Value} {vs : List α} (h : NumAt enc cl Gd tN tE size w lo nb mb sv vs) {k : Nat} (hk : numX nb mb sv k) {Gd' : Value -> Prop} {m : List (Value × Value)} (hc : MapAt w Gd' k m) : k = mb := by
 obtain ⟨es, c, h1, -⟩ := hc
 rcases hk with rfl | rfl | hk
 ·rw [h.blk] at h1; injection h1 with h1; cases h1
 ·rfl
 ·obtain ⟨-, -, cur', h2⟩ := owns_lt h.row k hk; rw [h2] at h1; injection h1 with h1; cases h1
theorem app_at {tS tE : TypeId} {z : Value} {size bytes : Nat} (hu : Tryz.prog.underlying tS = some (.slice tE)) (hi : (Tryz.prog.info? tE).map (fun i => (i.zero, i.size, i.bytes)) = some (some z, size, bytes)) (hz : z.cells.size = size) (hs : 0 < size) (hby : bytes <= 100)
  (w : World) (base : Nat) (v : Value) (n : Nat) (xs : List Value) (cs : List Value) (hc : cs.length = size) (h1 : ∀ u ∈ cs, u.oneCell' = true) (hown : w.ownsRow base tE size v n xs) (hb : base <= w.heap.size) (hl : n <= 100000000) :
  ∃ v' w', (Builtin.append_ #[tS, tS] tS #[v, .slice (some ⟨w.heap.size, 0, none⟩) 1 1]).run Tryz.prog (w.alloc (.cells cs.toArray tE)) = .ok v' w' /\
   w'.ownsRow base tE size v' (n + 1) (xs ++ cs) /\ w.grownBy w' v.ownBlock /\ (∀ k, v'.ownBlock = some k -> v.ownBlock = some k \/ w.heap.size <= k) := by
 obtain ⟨i, hi, hzz⟩ := Option.map_eq_some_iff.1 hi
 simp only [Prod.mk.injEq] at hzz
 obtain ⟨e1, e2, e3⟩ := hzz
 have hnews : ∀ (j : Nat) (u : Value), cs[j]? = some u -> (w.alloc (.cells cs.toArray tE)).cell? ((⟨w.heap.size, 0, none⟩ : Addr).add j) = some u := by
  intro j u hj
  have e : (⟨w.heap.size, 0, none⟩ : Addr).add j = ⟨w.heap.size, j, none⟩ := by
   unfold Addr.add
   split
   ·rename_i h; rw [h]
   ·simp
  rw [e]
  exact row_cell (cs := cs) (t := tE) (fz := (0, 0)) (by show (w.heap.push _)[w.heap.size]? = _; rw [Array.getElem?_push_size]) hj
 have hbb : (n + 1) * bytes <= 140737488355328 := Nat.le_trans (Nat.mul_le_mul (show n + 1 <= 100000001 by omega) hby) (by decide)
 obtain ⟨v', w', hr, h2, h3, -, h5⟩ := run_append_own_at (P := Tryz.prog) (w.alloc (.cells cs.toArray tE)) base tS tS tE i z size bytes hu hi e1 e2 e3 hz hs v n xs (hown.alloc _) ⟨w.heap.size, 0, none⟩ 1 1 cs (by rw [hc, Nat.one_mul]) hnews h1 (by unfold maxLen; omega) hbb (by simp; omega)
 refine ⟨v', w', hr, h2, grown_alloc h3, fun k hk => ?_⟩
 rcases h5 with h5 | h5
 ·exact Or.inl (h5 ▸ hk)
 ·rw [h5] at hk; injection hk with hk; right; rw [← hk]; simp
end Go.Proofs.YtalmoiogbdahcaaGreat
