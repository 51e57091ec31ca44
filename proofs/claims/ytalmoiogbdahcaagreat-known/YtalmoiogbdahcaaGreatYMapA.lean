import Derived.Test.YtalmoiogbdahcaaGreatYWrdG
import Derived.DeepKeys4
import Derived.Carry
namespace Go.Proofs.YtalmoiogbdahcaaGreat
set_option maxRecDepth 100000
set_option maxHeartbeats 8000000
open Go.RowKit
structure KeyOk (P : Program) (kt : TypeId) (Gd : Value -> Prop) : Prop where
 check : ∀ (w : World) (em : Bool) (v : Value), Gd v -> (Instr.checkKey em 10000 kt v).run P w = .ok () w
 find : ∀ (w : World) (x : Value), Gd x -> ∀ es : List MapEntry, (∀ e ∈ es, Gd e.key) ->
  ((Instr.findKey kt x es).run P w = .ok none w /\ ∀ e ∈ es, e.key ≠ x) \/ ∃ j e, (Instr.findKey kt x es).run P w = .ok (some (j, e.val)) w /\ es[j]? = some e /\ e.key = x
 stays : ∀ (w : World) (v : Value), Gd v -> (Instr.keyThatStays v v).run P w = .ok v w
theorem KeyOk.of_law {P : Program} {k : TypeId} (K : WideMaps.KeyLaw P k) : KeyOk P k (fun v => ∃ l, keyOf P k v = some l) where
 check := fun w em _ ⟨_, h⟩ => K.check w em h
 find := fun w _ ⟨_, h⟩ es he => K.find w h es he
 stays := fun w _ ⟨_, h⟩ => K.stays w h
theorem KeyOk.sub {P : Program} {k : TypeId} {G G' : Value -> Prop} (K : KeyOk P k G) (h : ∀ v, G' v -> G v) : KeyOk P k G' where
 check := fun w em v hv => K.check w em v (h v hv)
 find := fun w x hx es he => K.find w x (h x hx) es (fun e hm => h _ (he e hm))
 stays := fun w v hv => K.stays w v (h v hv)
def pairsOf (es : Array MapEntry) : List (Value × Value) := es.toList.map fun e => (e.key, e.val)
def MapAt (w : World) (Gd : Value -> Prop) (b : Nat) (m : List (Value × Value)) : Prop :=
 ∃ es clock, w.heap[b]? = some (.map es clock) /\ pairsOf es = m /\ (∀ p ∈ m, Gd p.1) /\ (m.map (·.1)).Nodup
theorem MapAt.move {w w' : World} {Gd : Value -> Prop} {b : Nat} {m : List (Value × Value)} (h : MapAt w Gd b m) (hb : w'.heap[b]? = w.heap[b]?) : MapAt w' Gd b m := by
 obtain ⟨es, c, h1, h2⟩ := h
 exact ⟨es, c, hb.trans h1, h2⟩
theorem MapAt.lt {w : World} {Gd : Value -> Prop} {b : Nat} {m : List (Value × Value)} (h : MapAt w Gd b m) : b < w.heap.size := by
 obtain ⟨es, c, h1, -⟩ := h
 exact (Array.getElem?_eq_some_iff.1 h1).1
theorem MapAt.new (w : World) (Gd : Value -> Prop) : MapAt (w.alloc (.map #[] 0)) Gd w.heap.size [] :=
 ⟨#[], 0, (MapKept.heap_alloc w _).1, rfl, (by simp), List.nodup_nil⟩
noncomputable def getM (m : List (Value × Value)) (k : Value) : Option Value := by
 classical exact (m.find? fun p => decide (p.1 = k)).map (·.2)
theorem getM_nil (k : Value) : getM [] k = none := rfl
theorem getM_none {m : List (Value × Value)} {k : Value} (h : ∀ p ∈ m, p.1 ≠ k) : getM m k = none := by
 classical
 unfold getM
 rw [Option.map_eq_none_iff, List.find?_eq_none]
 intro p hp; simpa using h p hp
theorem getM_none' {m : List (Value × Value)} {k : Value} (h : getM m k = none) : ∀ p ∈ m, p.1 ≠ k := by
 classical
 unfold getM at h
 rw [Option.map_eq_none_iff, List.find?_eq_none] at h
 intro p hp; simpa using h p hp
theorem getM_mem {m : List (Value × Value)} {k v : Value} (h : getM m k = some v) : (k, v) ∈ m := by
 classical
 unfold getM at h
 obtain ⟨p, h1, h2⟩ := Option.map_eq_some_iff.1 h
 have hm := List.mem_of_find?_eq_some h1
 have hk := List.find?_some h1
 simp at hk
 obtain ⟨a, b⟩ := p
 dsimp only at hk h2
 subst hk; subst h2; exact hm
theorem getM_of {m : List (Value × Value)} (hn : (m.map (·.1)).Nodup) {k v : Value} (h : (k, v) ∈ m) : getM m k = some v := by
 cases hg : getM m k with
 | none => exact absurd rfl (getM_none' hg _ h)
 | some u =>
  have hu := getM_mem hg
  have : u = v := by
   induction m with
   | nil => cases h
   | cons p m ih =>
    rw [List.map_cons, List.nodup_cons] at hn
    rcases List.mem_cons.1 h with h1 | h1 <;> rcases List.mem_cons.1 hu with h2 | h2
    ·rw [← h1] at h2; injection h2
    ·exfalso; apply hn.1; rw [← h1]; exact List.mem_map.2 ⟨_, h2, rfl⟩
    ·exfalso; apply hn.1; rw [← h2]; exact List.mem_map.2 ⟨_, h1, rfl⟩
    ·have hk : p.1 ≠ k := fun e => hn.1 (by rw [e]; exact List.mem_map.2 ⟨_, h1, rfl⟩)
     refine ih hn.2 h1 ?_ h2
     classical
     unfold getM at hg ⊢
     rw [List.find?_cons_of_neg (by simpa using hk)] at hg
     exact hg
  rw [this]
theorem getM_append_none {m : List (Value × Value)} {k : Value} (h : getM m k = none) (q : Value × Value) : getM (m ++ [q]) k = getM [q] k := by
 classical
 have hn := getM_none' h
 unfold getM
 rw [List.find?_append]
 have : m.find? (fun p => decide (p.1 = k)) = none := by rw [List.find?_eq_none]; intro p hp; simpa using hn p hp
 rw [this]; rfl
theorem getM_append_some {m : List (Value × Value)} {k v : Value} (h : getM m k = some v) (q : List (Value × Value)) : getM (m ++ q) k = some v := by
 classical
 unfold getM at h ⊢
 rw [List.find?_append]
 obtain ⟨p, h1, h2⟩ := Option.map_eq_some_iff.1 h
 rw [h1]; simp [h2]
theorem map_look {P : Program} {t kt et : TypeId} {Gd : Value -> Prop} (K : KeyOk P kt Gd) (ht : P.underlying t = some (.map kt et)) {w : World} {b : Nat} {m : List (Value × Value)} (h : MapAt w Gd b m) {k z : Value} (hk : Gd k) (hz : (zeroValue et).run P w = .ok z w) :
  (Instr.lookup t (.map (some b)) k true).run P w = .ok (.tuple #[(getM m k).getD z, .bool (getM m k).isSome]) w /\ (Instr.lookup t (.map (some b)) k false).run P w = .ok ((getM m k).getD z) w := by
 obtain ⟨es, clock, h1, h2, h3, h4⟩ := h
 have hgd : ∀ e ∈ es.toList, Gd e.key := fun e he => h3 (e.key, e.val) (by rw [← h2]; exact List.mem_map.2 ⟨e, he, rfl⟩)
 rcases K.find w k hk es.toList hgd with ⟨f1, f2⟩ | ⟨j, e, f1, f2, f3⟩
 ·have hg : getM m k = none := getM_none (fun p hp => by
   rw [← h2] at hp
   obtain ⟨e, he, rfl⟩ := List.mem_map.1 hp
   exact f2 e he)
  rw [hg]
  constructor <;> simp [Instr.lookup, run_underlying ht, MapKept.run_getObj_map h1, K.check w _ k hk, f1, hz, Result.andThen]
 ·have hmem : (k, e.val) ∈ m := by
   rw [← h2]
   exact List.mem_map.2 ⟨e, List.mem_of_getElem? f2, by rw [f3]⟩
  have hg := getM_of h4 hmem
  rw [hg]
  constructor <;> simp [Instr.lookup, run_underlying ht, MapKept.run_getObj_map h1, K.check w _ k hk, f1, Result.andThen]
theorem set_grown {w : World} {b : Nat} {o o' : Obj} (hb : w.heap[b]? = some o) : w.grownBy { w with heap := w.heap.setIfInBounds b o' } (some b) :=
 ⟨rfl, rfl, rfl, by simp, fun k _ hne => (MapKept.heap_set hb).2 k (fun e => hne (by rw [e]))⟩
theorem map_put_new {P : Program} {t kt et : TypeId} {Gd : Value -> Prop} (K : KeyOk P kt Gd) (ht : P.underlying t = some (.map kt et)) {w : World} {b : Nat} {m : List (Value × Value)} (h : MapAt w Gd b m) {k : Value} (hk : Gd k) (hn : getM m k = none) (v : Value) :
  ∃ w', (Instr.mapUpdate t (.map (some b)) k v).run P w = .ok () w' /\ MapAt w' Gd b (m ++ [(k, v)]) /\ w.grownBy w' (some b) /\ w'.heap.size = w.heap.size := by
 obtain ⟨es, clock, h1, h2, h3, h4⟩ := h
 have hgd : ∀ e ∈ es.toList, Gd e.key := fun e he => h3 (e.key, e.val) (by rw [← h2]; exact List.mem_map.2 ⟨e, he, rfl⟩)
 have hno := getM_none' hn
 rcases K.find w k hk es.toList hgd with ⟨f1, f2⟩ | ⟨j, e, f1, f2, f3⟩
 ·refine ⟨{ w with heap := w.heap.setIfInBounds b (.map (es.push { key := k, val := v, born := clock }) (clock + 1)) }, ?_, ⟨_, _, (MapKept.heap_set h1).1, ?_, ?_, ?_⟩, set_grown h1, by simp⟩
  ·simp [Instr.mapUpdate, run_underlying ht, MapKept.run_getObj_map h1, K.check w _ k hk, f1, MapKept.run_setObj_map _ h1, Result.andThen]
  ·rw [← h2]; simp [pairsOf]
  ·intro p hp
   rcases List.mem_append.1 hp with hp | hp
   ·exact h3 p hp
   ·simp at hp; rw [hp]; exact hk
  ·rw [List.map_append, List.nodup_append]
   refine ⟨h4, by simp, ?_⟩
   intro a ha c hc
   simp at hc
   subst hc
   obtain ⟨p, hp, rfl⟩ := List.mem_map.1 ha
   exact hno p hp
 ·exfalso
  refine hno (e.key, e.val) ?_ f3
  rw [← h2]
  exact List.mem_map.2 ⟨e, List.mem_of_getElem? f2, rfl⟩
theorem map_put_old {P : Program} {t kt et : TypeId} {Gd : Value -> Prop} (K : KeyOk P kt Gd) (ht : P.underlying t = some (.map kt et)) {w : World} {b : Nat} {m : List (Value × Value)} (h : MapAt w Gd b m) {k u : Value} (hk : Gd k) (hn : getM m k = some u) (v : Value) :
  ∃ w' m', (Instr.mapUpdate t (.map (some b)) k v).run P w = .ok () w' /\ MapAt w' Gd b m' /\ (∀ x, x ≠ k -> getM m' x = getM m x) /\ getM m' k = some v /\ w.grownBy w' (some b) /\ w'.heap.size = w.heap.size := by
 obtain ⟨es, clock, h1, h2, h3, h4⟩ := h
 have hgd : ∀ e ∈ es.toList, Gd e.key := fun e he => h3 (e.key, e.val) (by rw [← h2]; exact List.mem_map.2 ⟨e, he, rfl⟩)
 rcases K.find w k hk es.toList hgd with ⟨f1, f2⟩ | ⟨j, e, f1, f2, f3⟩
 ·exfalso
  have hm := getM_mem hn
  rw [← h2] at hm
  obtain ⟨e, he, he2⟩ := List.mem_map.1 hm
  injection he2 with ha hb
  exact f2 e he ha
 ·have f2' : es[j]? = some e := by simpa using f2
  have hmk : (es.modify j fun e => { e with key := k, val := v }).toList.map (·.key) = es.toList.map (·.key) := by
   refine List.ext_getElem? fun i => ?_
   simp only [List.getElem?_map, Array.getElem?_toList, Array.getElem?_modify]
   by_cases hij : j = i
   ·subst hij; simp [f2', f3]
   ·simp [hij]
  have hkeys : (pairsOf (es.modify j fun e => { e with key := k, val := v })).map (·.1) = m.map (·.1) := by
   rw [← h2]; unfold pairsOf; rw [List.map_map, List.map_map]; exact hmk
  have hat : ∀ i, (pairsOf (es.modify j fun e => { e with key := k, val := v }))[i]? = if i = j then some (k, v) else m[i]? := by
   intro i
   rw [← h2]; unfold pairsOf
   simp only [List.getElem?_map, Array.getElem?_toList, Array.getElem?_modify]
   by_cases hij : j = i
   ·subst hij; simp [f2']
   ·rw [if_neg hij, if_neg (fun e => hij e.symm)]
  have hnd : ((pairsOf (es.modify j fun e => { e with key := k, val := v })).map (·.1)).Nodup := by rw [hkeys]; exact h4
  refine ⟨{ w with heap := w.heap.setIfInBounds b (.map (es.modify j fun e => { e with key := k, val := v }) clock) }, pairsOf (es.modify j fun e => { e with key := k, val := v }), ?_, ⟨_, _, (MapKept.heap_set h1).1, rfl, ?_, hnd⟩, ?_, ?_, set_grown h1, by simp⟩
  ·have hst := K.stays w k hk
   simp [Instr.mapUpdate, run_underlying ht, MapKept.run_getObj_map h1, K.check w _ k hk, f1, f2', f3, hst, MapKept.run_setObj_map _ h1, Result.andThen]
  ·intro p hp
   have : p.1 ∈ m.map (·.1) := by rw [← hkeys]; exact List.mem_map.2 ⟨p, hp, rfl⟩
   obtain ⟨p', hp', e'⟩ := List.mem_map.1 this
   rw [← e']; exact h3 p' hp'
  ·intro x hx
   have key : ∀ u, (x, u) ∈ pairsOf (es.modify j fun e => { e with key := k, val := v }) ↔ (x, u) ∈ m := by
    intro u
    rw [List.mem_iff_getElem?, List.mem_iff_getElem?]
    constructor
    ·rintro ⟨i, hi⟩
     rw [hat] at hi
     split at hi
     ·injection hi with hi; injection hi with hi _; exact absurd hi.symm hx
     ·exact ⟨i, hi⟩
    ·rintro ⟨i, hi⟩
     refine ⟨i, ?_⟩
     rw [hat, if_neg]
     ·exact hi
     ·rintro rfl
      have : m[i]? = some (e.key, e.val) := by rw [← h2]; simp [pairsOf, f2']
      rw [this] at hi
      injection hi with hi; injection hi with hi _
      exact hx (hi ▸ f3)
   cases hg : getM m x with
   | none =>
    refine getM_none fun p hp e' => ?_
    obtain ⟨a, c⟩ := p
    dsimp only at e'
    subst e'
    exact getM_none' hg _ ((key c).1 hp) rfl
   | some y => exact getM_of hnd ((key y).2 (getM_mem hg))
  ·refine getM_of hnd ?_
   rw [List.mem_iff_getElem?]
   exact ⟨j, by rw [hat, if_pos rfl]⟩
theorem Tryz.laidOutT : laidOutB Tryz.prog = true := by kernel_rfl
theorem Tryz.headRow : (103 : TypeId) < Tryz.prog.types.size := of_decide_eq_true (by kernel_rfl)
theorem Tryz.headAt : Tryz.prog.keyTypeAt 2 103 = true := by kernel_rfl
theorem Tryz.headLaw : WideMaps.KeyLaw Tryz.prog 103 := deep_law_laid Tryz.laidOutT (m := 2) (by decide) Tryz.headRow Tryz.headAt (by rw [Tryz.underlying103])
def headV (k r : ByteArray) : Value := .agg #[.string k, .string r]
theorem Tryz.headKey : Tryz.prog.keyType 103 = true := by kernel_rfl
theorem Tryz.headCells : Tryz.prog.cellsOf 103 = 2 := by kernel_rfl
theorem Tryz.strCells : Tryz.prog.cellsOf 9 = 1 := by kernel_rfl
theorem Tryz.typesN : ∃ n, Tryz.prog.types.size + 1 = n + 2 := ⟨Tryz.prog.types.size - 1, by have h : (103 : Nat) < Tryz.prog.types.size := Tryz.headRow; omega⟩
theorem head_key (k r : ByteArray) (hk : k.size <= maxLen) (hr : r.size <= maxLen) : ∃ l, keyOf Tryz.prog 103 (headV k r) = some l := by
 obtain ⟨n, hn⟩ := Tryz.typesN
 refine ⟨.string (keyBytes [.string k.data.toList, .string r.data.toList]), ?_⟩
 unfold keyOf headV
 rw [hn]
 simp [Tryz.underlying103, Tryz.headKey, Value.formed, Tryz.headCells, Program.keyLits, Value.cells, Tryz.strCells, Tryz.underlying9, hk, hr]
def HeadG (v : Value) : Prop := ∃ k r : ByteArray, v = headV k r /\ k.size <= maxLen /\ r.size <= maxLen
theorem head_ok : KeyOk Tryz.prog 103 HeadG :=
 (KeyOk.of_law Tryz.headLaw).sub fun v ⟨k, r, e, h1, h2⟩ => by rw [e]; exact head_key k r h1 h2
theorem headV_inj {a b c d : ByteArray} (h : headV a b = headV c d) : a = c /\ b = d := by
 unfold headV at h
 simp at h
 exact h
end Go.Proofs.YtalmoiogbdahcaaGreat
