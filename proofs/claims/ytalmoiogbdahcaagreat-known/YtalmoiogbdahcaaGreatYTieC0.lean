import Derived.Test.YtalmoiogbdahcaaGreatYWrdL
import Derived.Test.YtalmoiogbdahcaaGreatYGhA
import Derived.Test.YtalmoiogbdahcaaGreatYTieA
namespace Go.Proofs.YtalmoiogbdahcaaGreat
set_option maxRecDepth 100000
set_option maxHeartbeats 8000000
open Go.RowKit
def ruleN (xs : List ByteArray) (x : Nod) : WayT := match xs.find? (fun s => decide (headKind (rd0 s) = x.k /\ headRel (rd0 s) = x.r)) with | some s => (ruleW s).1 | none => .mk 3 noneB noneB []
def RulesN (w : World) (mb : Nat) (xs : List ByteArray) : Prop := ∃ m lor, MapAt w HeadG mb m /\ RMap w lor xs m
theorem find_idx {α : Type} {p : α -> Bool} : ∀ {l : List α} {a : α}, l.find? p = some a -> ∃ i : Nat, l[i]? = some a /\ p a = true := by
 intro l a h
 have h1 := List.mem_of_find?_eq_some h
 obtain ⟨i, hi⟩ := List.mem_iff_getElem?.1 h1
 exact ⟨i, hi, List.find?_some h⟩
theorem RulesN.look {w : World} {mb : Nat} {xs : List ByteArray} (h : RulesN w mb xs) : ∃ m, MapAt w HeadG mb m /\ ∀ x : Nod, WayAt w (fun _ => True) (ruleN xs x) ((getM m (headV x.k x.r)).getD (.agg #[.int .i64 3, .string noneB, .string noneB, .slice none 0 0])) := by
 obtain ⟨m, lor, h1, h2⟩ := h
 refine ⟨m, h1, fun x => ?_⟩
 obtain ⟨es, cl, q1, q2, q3, q4⟩ := h1
 unfold ruleN
 cases hf : xs.find? (fun s => decide (headKind (rd0 s) = x.k /\ headRel (rd0 s) = x.r)) with
 | none =>
  have hn : getM m (headV x.k x.r) = none := by
   refine getM_none fun p hp e => ?_
   obtain ⟨i, hi⟩ := List.mem_iff_getElem?.1 hp
   have hil := (List.getElem?_eq_some_iff.1 hi).1
   rw [h2.len] at hil
   have hk := h2.key i _ _ (List.getElem?_eq_getElem hil) hi
   rw [hk] at e
   obtain ⟨e1, e2⟩ := headV_inj e
   have := List.find?_eq_none.1 hf xs[i] (List.getElem_mem hil)
   simp [e1, e2] at this
  rw [hn]
  exact .leaf 3 noneB noneB
 | some s =>
  obtain ⟨i, hi, hp⟩ := find_idx hf
  have hil := (List.getElem?_eq_some_iff.1 hi).1
  rw [← h2.len] at hil
  have hmi : m[i]? = some m[i] := List.getElem?_eq_getElem hil
  have hk := h2.key i s _ hi hmi
  have hw := h2.way i s _ hi hmi
  simp at hp
  rw [hp.1, hp.2] at hk
  have hg : getM m (headV x.k x.r) = some m[i].2 := getM_of q4 (by rw [← hk]; exact List.getElem_mem hil)
  rw [hg]
  exact hw.move2 fun g cur _ _ => ⟨trivial, rfl⟩
theorem RulesN.move {w w' : World} {mb : Nat} {xs : List ByteArray} (h : RulesN w mb xs) (hm : ∀ (Gd : Value -> Prop) (m : List (Value × Value)), MapAt w Gd mb m -> w'.heap[mb]? = w.heap[mb]?) (hw : ∀ (g : Nat) (cur : Array Value), w.heap[g]? = some (.cells cur 106 (0, 0)) -> w'.heap[g]? = w.heap[g]?) : RulesN w' mb xs := by
 obtain ⟨m, lor, h1, h2⟩ := h
 exact ⟨m, lor, h1.move (hm _ _ h1), h2.move fun g cur _ hc => hw g cur hc⟩
theorem RulesN.below {w w' : World} {mb : Nat} {xs : List ByteArray} (h : RulesN w mb xs) (hb : Below w.heap.size w w') : RulesN w' mb xs :=
 h.move (fun _ _ hm => hb.block _ hm.lt) (fun _ _ hg => hb.block _ (row_lt hg))
theorem RulesN.rstep {U : List ByteArray} {lo tb : Nat} {f : Nod -> Option Value} {who : Nod -> Nat} {L L' : TL} {S S' : TS} {w w' : World} {xs : List ByteArray} (h : RulesN w L.mb xs) (h0 : TiesAt U w lo tb L S f who) (r : RStep U lo tb f who L S w L' S' w') : RulesN w' L'.mb xs := by
 rw [r.loc]
 refine h.move (fun Gd m hm => r.fr.block _ hm.lt fun hx => ?_) fun g cur hg => r.fr.block g (row_lt hg) fun hx => ?_
 ·exact (maps_ne h0.maps).1.2.1 (h0.rl.kindM hx hm)
 ·rcases h0.rl.kind hx hg with e | e <;> revert e <;> decide
theorem flat3 {vs : List Nod} {i : Nat} {x : Nod} (h : vs[i]? = some x) : (vs.flatMap ndC)[i * 3]? = some (.string x.k) /\ (vs.flatMap ndC)[i * 3 + 1]? = some (.string x.n) /\ (vs.flatMap ndC)[i * 3 + 2]? = some (.string x.r) := by
 induction vs generalizing i with
 | nil => simp at h
 | cons r rs ih =>
  rw [List.flatMap_cons]
  cases i with
  | zero => simp at h; subst h; exact ⟨rfl, rfl, rfl⟩
  | succ i =>
   obtain ⟨h1, h2, h3⟩ := ih (i := i) (by simpa using h)
   rw [show (i + 1) * 3 = i * 3 + 3 by omega, show i * 3 + 3 + 1 = i * 3 + 1 + 3 by omega, show i * 3 + 3 + 2 = i * 3 + 2 + 3 by omega]
   exact ⟨h1, h2, h3⟩
theorem owns_cell {w : World} {base : Nat} {e : TypeId} {size n : Nat} {v : Value} {xs : List Value} (h : w.ownsRow base e size v n xs) (hn : 0 < n) : ∃ g cap, v = .slice (some ⟨g, 0, none⟩) n cap /\ ∀ j u, xs[j]? = some u -> w.cell? ⟨g, j, none⟩ = some u := by
 rcases h.2 with ⟨-, h0⟩ | ⟨g, cap, cur, rfl, -, hg, -, -, -, ht⟩
 ·omega
 ·refine ⟨g, cap, rfl, fun j u hj => ?_⟩
  rw [← ht] at hj
  have hlt : j < n * size := by
   have := (List.getElem?_eq_some_iff.1 hj).1
   rw [List.length_take] at this; omega
  rw [List.getElem?_take_of_lt hlt] at hj
  exact row_cell (cs := cur.toList) (t := e) (fz := (0, 0)) (by simpa using hg) hj
theorem toIntVal_fb {n : Nat} (h : n < 8192) : floatToIntVal .f64 (fb n) .i64 = some (n : Int) := by
 unfold floatToIntVal
 rw [toInt_fb h]
 have e1 : IntKind.i64.min = -9223372036854775808 := by decide
 have e2 : IntKind.i64.max = 9223372036854775807 := by decide
 simp [e1, e2]
 omega
theorem ix_get {α : Type} [DecidableEq α] {l : List α} {a : α} (h : a ∈ l) : l[ixOf l a]? = some a := by
 have h1 := ixOf_lt h
 rw [List.getElem?_eq_getElem h1]
 exact congrArg some (List.getElem_idxOf h1)
structure NStep (n : Nat) (U : List ByteArray) (lo tb : Nat) (f : Nod -> Option Value) (who : Nod -> Nat) (L : TL) (S : TS) (w : World) (L' : TL) (S' : TS) (w' : World) : Prop where
 at' : TiesAt U w' lo tb L' S' f who
 fr : Frm (fun k => numX L.nt L.mt L.st k \/ relX L k) w w'
 ownT : ∀ k, L'.st.ownBlock = some k -> L.st.ownBlock = some k \/ w.heap.size <= k
 ownR : ∀ k, L'.sr.ownBlock = some k -> L.sr.ownBlock = some k \/ w.heap.size <= k
 loc : L' = { L with st := L'.st, sr := L'.sr }
 uss : S'.uss = S.uss
 le : S.le S'
 tl : S'.ths.length <= S.ths.length + n
theorem RStep.toN {U : List ByteArray} {lo tb : Nat} {f : Nod -> Option Value} {who : Nod -> Nat} {L L' : TL} {S S' : TS} {w w' : World} (h : RStep U lo tb f who L S w L' S' w') : NStep 0 U lo tb f who L S w L' S' w' := by
 refine ⟨h.at', h.fr.mono fun _ _ e => Or.inr e, ?_, h.own, ?_, h.uss, h.le, by rw [h.ths]; exact Nat.le_refl _⟩
 ·intro k hk; rw [h.loc] at hk; exact Or.inl hk
 ·have hl := h.loc
  rw [hl]
theorem NStep.trans {n m : Nat} {U : List ByteArray} {lo tb : Nat} {f : Nod -> Option Value} {who : Nod -> Nat} {L L' L'' : TL} {S S' S'' : TS} {w w' w'' : World} (h : NStep n U lo tb f who L S w L' S' w') (k : NStep m U lo tb f who L' S' w' L'' S'' w'') : NStep (n + m) U lo tb f who L S w L'' S'' w'' := by
 refine ⟨k.at', h.fr.trans k.fr ?_, ?_, ?_, ?_, k.uss.trans h.uss, h.le.trans k.le, by have := h.tl; have := k.tl; omega⟩
 ·intro j hj hx
  rcases hx with hx | hx
  ·left
   rcases hx with e | e | e
   ·rw [h.loc] at e; exact Or.inl e
   ·rw [h.loc] at e; exact Or.inr (Or.inl e)
   ·rcases h.ownT j e with e | e
    ·exact Or.inr (Or.inr e)
    ·omega
  ·right
   rcases hx with e | e | e
   ·rw [h.loc] at e; exact Or.inl e
   ·rw [h.loc] at e; exact Or.inr (Or.inl e)
   ·rcases h.ownR j e with e | e
    ·exact Or.inr (Or.inr e)
    ·omega
 ·intro j hj
  rcases k.ownT j hj with e | e
  ·exact h.ownT j e
  ·exact Or.inr (Nat.le_trans h.fr.size e)
 ·intro j hj
  rcases k.ownR j hj with e | e
  ·exact h.ownR j e
  ·exact Or.inr (Nat.le_trans h.fr.size e)
 ·have h1 := h.loc
  have h2 := k.loc
  rw [h1] at h2
  exact h2
theorem NumAt.aside {α β : Type} {ea : α -> Value} {eb : β -> Value} {ca : α -> List Value} {cb : β -> List Value} {Ga Gb : Value -> Prop} {tN tE : TypeId} {size : Nat} {w w' : World} {lo na ma nb mb : Nat} {sa sb : Value} {va : List α} {vb : List β}
  (ha : NumAt ea ca Ga tN tE size w lo na ma sa va) (hb : NumAt eb cb Gb tN tE size w lo nb mb sb vb) (hne : tN ≠ tE) (hn : na ≠ nb) (hm : ma ≠ mb) (hs : ∀ k, sa.ownBlock = some k -> sb.ownBlock ≠ some k) (hf : Frm (numX na ma sa) w w') : NumAt eb cb Gb tN tE size w' lo nb mb sb vb := by
 refine hb.keep hf fun k hk hx => ?_
 obtain ⟨es, c, qm, -⟩ := ha.map
 obtain ⟨es', c', qm', -⟩ := hb.map
 rcases hk with rfl | rfl | hk <;> rcases hx with e | e | e
 ·exact hn e.symm
 ·have := hb.blk; rw [e, qm] at this; injection this with this; cases this
 ·obtain ⟨-, -, cur, q⟩ := owns_lt ha.row _ e
  rw [hb.blk] at q; injection q with q; injection q with _ q; exact hne q
 ·have := ha.blk; rw [← e, qm'] at this; injection this with this; cases this
 ·exact hm e.symm
 ·obtain ⟨-, -, cur, q⟩ := owns_lt ha.row _ e
  rw [qm'] at q; injection q with q; cases q
 ·obtain ⟨-, -, cur, q⟩ := owns_lt hb.row _ hk
  rw [e, ha.blk] at q; injection q with q; injection q with _ q; exact hne q
 ·obtain ⟨-, -, cur, q⟩ := owns_lt hb.row _ hk
  rw [e, qm] at q; injection q with q; cases q
 ·exact hs k e hk
theorem TiesAt.thing {U : List ByteArray} {w w' : World} {lo tb : Nat} {L : TL} {S : TS} {f : Nod -> Option Value} {who : Nod -> Nat} (h : TiesAt U w lo tb L S f who) {x : Nod} (hx : x.r = noneB) (hl : S.ths.length < 4000) {e : Ending} (hp : NumNdPost w lo L.nt L.mt L.st S.ths x e w') :
  e = .returned (.int .i64 (ixOf (addN S.ths x) x : Nat)) /\ ∃ st', NStep 1 U lo tb f who L S w { L with st := st' } { S with ths := addN S.ths x } w' := by
 obtain ⟨he, st', hn, hf, ho⟩ := hp
 refine ⟨he, st', ⟨?_, hf.mono fun _ _ e => Or.inl e, ho, fun _ hk => Or.inl hk, rfl, rfl, ⟨addN_prefix _ _, List.prefix_refl _⟩, addN_len _ _⟩⟩
 obtain ⟨⟨a1, a2, a3, a4, a5⟩, ⟨b1, b2, b3, b4⟩, ⟨c1, c2, c3⟩, ⟨d1, d2⟩, e1⟩ := maps_ne h.maps
 have kC : ∀ (k : Nat) (cur : Array Value) (t : TypeId), w.heap[k]? = some (.cells cur t (0, 0)) -> t ≠ 176 -> t ≠ 75 -> w'.heap[k]? = w.heap[k]? := by
  intro k cur t hk t1 t2
  refine hf.block k (row_lt hk) fun hx => ?_
  rcases h.th.kind hx hk with e | e
  ·exact t1 e
  ·exact t2 e
 have kM : ∀ (k : Nat) (Gd : Value -> Prop) (m : List (Value × Value)), MapAt w Gd k m -> k ≠ L.mt -> w'.heap[k]? = w.heap[k]? := fun k Gd m hk hne => hf.block k hk.lt fun hx => hne (h.th.kindM hx hk)
 have kR : NumSt Value.string w' lo L.nr L.mr L.sr S.rels := by
  have hh := h.rl
  refine ⟨(kC L.nr _ _ hh.blk (by decide) (by decide)).trans hh.blk, hh.map.move (kM L.mr _ _ hh.map (Ne.symm b1)), owns_to hh.row fun g hg => ?_, hh.nd, hh.lob, hh.lom⟩
  obtain ⟨-, -, cur, q⟩ := owns_lt hh.row g hg
  exact kC g cur _ q (by decide) (by decide)
 have kU : NumNd w' lo L.nu L.mu L.su S.uss := h.th.aside h.us (by decide) h.ntu b2 h.stu hf
 have ok' : TS.Ok U { S with ths := addN S.ths x } := by
  refine ⟨?_, h.ok.ul, h.ok.rn, h.ok.rU, h.ok.r0, ?_, h.ok.un, h.ok.Us⟩
  ·have := addN_len S.ths x
   show (addN S.ths x).length <= 4000
   omega
  ·intro q hq
   rcases mem_addN.1 hq with hq | hq
   ·exact h.ok.tn q hq
   ·rw [hq]; exact hx
 have hle : TS.le S { S with ths := addN S.ths x } := ⟨addN_prefix _ _, List.prefix_refl _⟩
 obtain ⟨ms, hs1, hs2⟩ := h.sub
 obtain ⟨mw, hw1, hw2⟩ := h.wh
 refine ⟨(kC tb _ _ h.blk (by decide) (by decide)).trans h.blk, hn, kR, kU, ⟨ms, hs1.move (kM _ _ _ hs1.map (Ne.symm b3)), hs2.le hle ok'⟩, ⟨mw, hw1.move (kM _ _ _ hw1 (Ne.symm b4)), hw2.le hle ok'⟩, ok', h.maps, h.ntu, ?_, h.lob, h.los, h.low⟩
 intro k hk e
 rcases ho k hk with e2 | e2
 ·exact h.stu k e2 e
 ·have := (owns_lt h.us.row k e).1; omega
theorem SubAt.nstep {n : Nat} {U : List ByteArray} {lo tb sb : Nat} {ts : List (Nod × Nod)} {f : Nod -> Option Value} {who : Nod -> Nat} {L L' : TL} {S S' : TS} {w w' : World} (h : SubAt w lo sb S ts f) (h0 : TiesAt U w lo tb L S f who) (r : NStep n U lo tb f who L S w L' S' w') : SubAt w' lo sb S' ts f := by
 refine (h.keep r.fr ?_).le r.le
 intro k _ hx cur e
 rcases hx with hx | hx
 ·rcases h0.th.kind hx e with e | e <;> revert e <;> decide
 ·rcases h0.rl.kind hx e with e | e <;> revert e <;> decide
theorem RulesN.nstep {n : Nat} {U : List ByteArray} {lo tb : Nat} {f : Nod -> Option Value} {who : Nod -> Nat} {L L' : TL} {S S' : TS} {w w' : World} {xs : List ByteArray} (h : RulesN w L.mb xs) (h0 : TiesAt U w lo tb L S f who) (r : NStep n U lo tb f who L S w L' S' w') : RulesN w' L'.mb xs := by
 rw [r.loc]
 refine h.move (fun Gd m hm => r.fr.block _ hm.lt fun hx => ?_) fun g cur hg => r.fr.block g (row_lt hg) fun hx => ?_
 ·rcases hx with hx | hx
  ·exact (maps_ne h0.maps).1.1 (h0.th.kindM hx hm)
  ·exact (maps_ne h0.maps).1.2.1 (h0.rl.kindM hx hm)
 ·rcases hx with hx | hx
  ·rcases h0.th.kind hx hg with e | e <;> revert e <;> decide
  ·rcases h0.rl.kind hx hg with e | e <;> revert e <;> decide
theorem thingOf_any (k n r : ByteArray) (w : World) : Calls Tryz.prog 137 #[.agg #[.string k, .string n, .string r]] w fun e w' => e = .returned (.agg #[.string k, .string n, .string noneB]) /\ Below w.heap.size w w' := by
 go_enter Tryz.func137, Tryz.ntmps137
 go_wp2
 exact bodyPost_ret (v := .agg #[.string k, .string n, .string noneB]) (by simp [results, Tryz.results137, go_sem, noneB]) rfl ⟨rfl, by repeat (first | exact Below.refl _ _ | refine Below.setCell ?_ (by first | exact Nat.le_refl _ | (simp; done) | (simp; omega)) _ | refine below_drewN ?_ _ | refine Below.drew ?_ | refine Below.alloc ?_ (by first | exact Nat.le_refl _ | (simp; done) | (simp; omega)) _)⟩
theorem NStep.tie {n : Nat} {U : List ByteArray} {lo tb : Nat} {f : Nod -> Option Value} {who : Nod -> Nat} {L L' : TL} {S S' : TS} {w w' : World} (r : NStep n U lo tb f who L S w L' S' w') : tieL L' = tieL L := by
 rw [r.loc]; rfl
theorem TiesAt.cellN {U : List ByteArray} {w : World} {lo tb : Nat} {L L' : TL} {S : TS} {f : Nod -> Option Value} {who : Nod -> Nat} (h : TiesAt U w lo tb L' S f who) (e : tieL L' = tieL L) {j : Nat} {v : Value} (hj : (tieL L)[j]? = some v) : w.cell? ⟨tb, j, none⟩ = some v := by
 have := h.blk
 rw [e] at this
 exact row_cell this hj
theorem NStep.new {n : Nat} {U : List ByteArray} {lo tb : Nat} {f : Nod -> Option Value} {who : Nod -> Nat} {L L' : TL} {S S' : TS} {w0 w w' : World} (h0 : TiesAt U w0 lo tb L S f who) (r : NStep n U lo tb f who L S w L' S' w') {k : Nat} (hk : w0.heap.size <= k) (hlt : k < w.heap.size) : w'.heap[k]? = w.heap[k]? := by
 refine r.fr.block k hlt fun hx => ?_
 rcases hx with hx | hx
 ·have := (h0.th.lt hx).1; omega
 ·have := (h0.rl.lt hx).1; omega
def NodeP1 (U : List ByteArray) (lo tb : Nat) (f : Nod -> Option Value) (who : Nod -> Nat) (L : TL) (S : TS) (x : Nod) (w : World) (e : Ending) (w' : World) : Prop :=
 ∃ (i : Nat) (L' : TL) (S' : TS), e = .returned (.int .i64 i) /\ i = ixOf S'.ths x.th /\ x.th ∈ S'.ths /\ L'.nr = L.nr /\ NStep 1 U lo tb f who L S w L' S' w'
theorem node_c1 {U : List ByteArray} {w : World} {lo tb : Nat} {L : TL} {S : TS} {f : Nod -> Option Value} {who : Nod -> Nat} (h : TiesAt U w lo tb L S f who) (x : Nod) (hok : okNd x) (hl : S.ths.length < 4000) (hlo : lo <= w.heap.size) :
  Calls Tryz.prog 136 #[.pointer (some ⟨L.nt, 0, none⟩), .agg #[.string x.k, .string x.n, .string noneB]] w (NodeP1 U lo tb f who L S x w) := by
 refine (numNd_any x.th h.th ⟨hok.1, hok.2.1, by show (0 : Nat) <= _; omega⟩ hlo (by omega)).mono ?_
 intro e w' hp
 obtain ⟨he, st', hs⟩ := h.thing (x := x.th) rfl hl hp
 exact ⟨_, { L with st := st' }, { S with ths := addN S.ths x.th }, he, rfl, mem_addN.2 (Or.inr rfl), rfl, hs⟩
def NodeP2 (n : Nat) (U : List ByteArray) (lo tb : Nat) (f : Nod -> Option Value) (who : Nod -> Nat) (L : TL) (S : TS) (x : Nod) (i : Nat) (w : World) (e : Ending) (w' : World) : Prop :=
 ∃ (j : Nat) (L' : TL) (S' : TS), e = .returned (.int .i64 j) /\ Value.complex .f64 (fb i) (fb j) = cxN S' x /\ Kn S' x /\ NStep n U lo tb f who L S w L' S' w'
theorem node_c2 {U : List ByteArray} {w : World} {lo tb : Nat} {L : TL} {S : TS} {f : Nod -> Option Value} {who : Nod -> Nat} (h : TiesAt U w lo tb L S f who) (x : Nod) (hx : x.th ∈ S.ths) (hr : x.r ∈ U) (hlo : lo <= w.heap.size) :
  Calls Tryz.prog 138 #[.pointer (some ⟨L.nr, 0, none⟩), .string x.r] w (NodeP2 0 U lo tb f who L S x (ixOf S.ths x.th) w) := by
 refine (numSt_any Value.string x.r x.r rfl h.rl ⟨x.r, rfl, h.ok.Us x.r hr⟩ (fun a _ e => by injection e) hlo (by have := h.ok.rl; omega)).mono ?_
 intro e w' hp
 obtain ⟨he, sr', hs⟩ := h.rel hr hp
 exact ⟨_, { L with sr := sr' }, { S with rels := addN S.rels x.r }, he, rfl, ⟨hx, mem_addN.2 (Or.inr rfl)⟩, hs.toN⟩
def NodeC : Prop := ∀ {U : List ByteArray} {w : World} {lo tb : Nat} {L : TL} {S : TS} {f : Nod -> Option Value} {who : Nod -> Nat}, TiesAt U w lo tb L S f who -> ∀ x : Nod, okNd x -> x.r ∈ U -> S.ths.length < 4000 -> lo <= w.heap.size ->
  Calls Tryz.prog 86 #[.pointer (some ⟨tb, 0, none⟩), .agg #[.string x.k, .string x.n, .string x.r]] w fun e w' => ∃ L' S', e = .returned (cxN S' x) /\ Kn S' x /\ NStep 1 U lo tb f who L S w L' S' w'
def CxRow (w : World) (v : Value) (us : List Value) : Prop :=
 ∃ o c, v = .slice o us.length c /\ ∀ (j : Nat) (u : Value), us[j]? = some u -> ∃ g, o = some ⟨g, 0, none⟩ /\ w.cell? ⟨g, j, none⟩ = some u
theorem CxRow.nil (w : World) (o : Option Addr) (c : Nat) : CxRow w (.slice o 0 c) [] := ⟨o, c, rfl, fun j u h => by simp at h⟩
theorem owns_cxrow {w : World} {base : Nat} {t : TypeId} {v : Value} {us : List Value} (h : w.ownsRow base t 1 v us.length us) : CxRow w v us := by
 rcases h.2 with ⟨rfl, h0⟩ | ⟨g, cap, cur, rfl, -, hg, -, -, -, ht⟩
 ·have : us = [] := List.eq_nil_of_length_eq_zero h0
  subst this; exact CxRow.nil _ _ _
 ·refine ⟨_, _, rfl, fun j u hj => ⟨g, rfl, ?_⟩⟩
  rw [← ht] at hj
  have hlt : j < us.length * 1 := by
   have := (List.getElem?_eq_some_iff.1 hj).1
   rw [List.length_take] at this; omega
  rw [List.getElem?_take_of_lt hlt] at hj
  exact row_cell (cs := cur.toList) (t := t) (fz := (0, 0)) (by simpa using hg) hj
theorem CxRow.keep {w w' : World} {v : Value} {us : List Value} (h : CxRow w v us) (hk : ∀ g n c, v = .slice (some ⟨g, 0, none⟩) n c -> us ≠ [] -> g < w.heap.size -> w'.heap[g]? = w.heap[g]?) : CxRow w' v us := by
 obtain ⟨o, c, rfl, hc⟩ := h
 refine ⟨o, c, rfl, fun j u hj => ?_⟩
 obtain ⟨g, rfl, h1⟩ := hc j u hj
 refine ⟨g, rfl, ?_⟩
 rw [← h1]
 exact World.cell?_of_block (hk g _ _ rfl (by intro e; rw [e] at hj; simp at hj) (cell_lt h1))
theorem CxRow.below {w w' : World} {v : Value} {us : List Value} (h : CxRow w v us) (hb : Below w.heap.size w w') : CxRow w' v us :=
 h.keep fun g _ _ _ _ hl => hb.block g hl
theorem app_nothing_cx (w : World) (x : Option Addr) (n c : Nat) (h : n <= c) : (Builtin.append_ #[170, 170] 170 #[.slice x n c, .slice none 0 0]).run Tryz.prog w = .ok (.slice x n c) w := by
 cases x <;> simp [Builtin.append_, run_underlying Tryz.underlying170, go_sem, h]
theorem app_cx (w : World) (base : Nat) (v u : Value) (us vs : List Value) (hown : w.ownsRow base 136 1 v us.length us) (hu : CxRow w u vs) (h1 : ∀ z ∈ vs, z.oneCell' = true) (hb : base <= w.heap.size) (hl : us.length + vs.length <= 100000000) (hn : vs = [] -> u = .slice none 0 0 \/ ∃ g c, u = .slice (some ⟨g, 0, none⟩) 0 c) :
  ∃ v' w', (Builtin.append_ #[170, 170] 170 #[v, u]).run Tryz.prog w = .ok v' w' /\ w'.ownsRow base 136 1 v' (us ++ vs).length (us ++ vs) /\ w.grownBy w' v.ownBlock /\ (∀ k, v'.ownBlock = some k -> v.ownBlock = some k \/ w.heap.size <= k) := by
 obtain ⟨i, hi, hzz⟩ := Option.map_eq_some_iff.1 Tryz.infoCx
 simp only [Prod.mk.injEq] at hzz
 obtain ⟨e1, e2, e3⟩ := hzz
 have go : ∀ (g c : Nat), u = .slice (some ⟨g, 0, none⟩) vs.length c -> (∀ (j : Nat) (z : Value), vs[j]? = some z -> w.cell? ⟨g, j, none⟩ = some z) -> ∃ v' w', (Builtin.append_ #[170, 170] 170 #[v, u]).run Tryz.prog w = .ok v' w' /\ w'.ownsRow base 136 1 v' (us ++ vs).length (us ++ vs) /\ w.grownBy w' v.ownBlock /\ (∀ k, v'.ownBlock = some k -> v.ownBlock = some k \/ w.heap.size <= k) := by
  intro g c he hc
  have hbb : (us.length + vs.length) * 16 <= 140737488355328 := by omega
  obtain ⟨v', w', hr, h2, h3, -, h5⟩ := run_append_own_at (P := Tryz.prog) w base 170 170 136 i (.complex .f64 0 0) 1 16 Tryz.underlying170 hi e1 e2 e3 rfl (by decide) v us.length us hown ⟨g, 0, none⟩ vs.length c vs (by omega)
   (fun j z hj => by
     have e : (⟨g, 0, none⟩ : Addr).add j = ⟨g, j, none⟩ := by
      unfold Addr.add
      split
      ·rename_i h; rw [h]
      ·simp
     rw [e]; exact hc j z hj) h1 (by unfold maxLen; omega) hbb hb
  refine ⟨v', w', by rw [he]; exact hr, by rw [List.length_append]; exact h2, h3, fun k hk => ?_⟩
  rcases h5 with h5 | h5
  ·exact Or.inl (h5 ▸ hk)
  ·rw [h5] at hk; injection hk with hk; right; omega
 obtain ⟨o, c, hv, hc⟩ := hu
 by_cases hvs : vs = []
 ·rcases hn hvs with hz | ⟨g, c', hz⟩
  ·subst hvs
   obtain ⟨x, c2, hxc, hv2⟩ : ∃ x c, us.length <= c /\ v = .slice x us.length c := by
    rcases hown.2 with ⟨rfl, h0⟩ | ⟨g, cp, cu, rfl, -, -, hle, -⟩
    ·exact ⟨none, 0, by omega, by rw [h0]⟩
    ·exact ⟨_, cp, hle, rfl⟩
   rw [hz, hv2]
   refine ⟨_, w, app_nothing_cx w x _ c2 hxc, by rw [List.append_nil, ← hv2]; exact hown, ⟨rfl, rfl, rfl, Nat.le_refl _, fun _ _ _ => rfl⟩, fun k hk => Or.inl hk⟩
  ·exact go g c' (by rw [hz, hvs]; rfl) (fun j z hj => by rw [hvs] at hj; simp at hj)
 ·obtain ⟨z, hz⟩ : ∃ z, vs[0]? = some z := ⟨_, List.getElem?_eq_getElem (List.length_pos_iff.2 hvs)⟩
  obtain ⟨g, rfl, -⟩ := hc 0 z hz
  exact go g c hv fun j z hj => by
   obtain ⟨g', h', h''⟩ := hc j z hj
   have e : g = g' := by simpa using h'
   rw [e]; exact h''
structure TA (U : List ByteArray) (ts : List (Nod × Nod)) (xs : List ByteArray) (lo tb sb : Nat) (f : Nod -> Option Value) (who : Nod -> Nat) (L : TL) (S : TS) (w : World) : Prop where
 t : TiesAt U w lo tb L S f who
 s : SubAt w lo sb S ts f
 r : RulesN w L.mb xs
 sb : sb <= w.heap.size
 tn : ts.length <= 50
theorem TA.lo {U : List ByteArray} {ts : List (Nod × Nod)} {xs : List ByteArray} {lo tb sb : Nat} {f : Nod -> Option Value} {who : Nod -> Nat} {L : TL} {S : TS} {w : World} (h : TA U ts xs lo tb sb f who L S w) : lo <= w.heap.size := Nat.le_trans h.t.lob (Nat.le_of_lt (row_lt h.t.blk))
theorem TA.rstep {U : List ByteArray} {ts : List (Nod × Nod)} {xs : List ByteArray} {lo tb sb : Nat} {f : Nod -> Option Value} {who : Nod -> Nat} {L L' : TL} {S S' : TS} {w w' : World} (h : TA U ts xs lo tb sb f who L S w) (r : RStep U lo tb f who L S w L' S' w') : TA U ts xs lo tb sb f who L' S' w' :=
 ⟨r.at', h.s.rstep h.t r, h.r.rstep h.t r, Nat.le_trans h.sb r.fr.size, h.tn⟩
theorem TA.below {U : List ByteArray} {ts : List (Nod × Nod)} {xs : List ByteArray} {lo tb sb : Nat} {f : Nod -> Option Value} {who : Nod -> Nat} {L : TL} {S : TS} {w w' : World} (h : TA U ts xs lo tb sb f who L S w) (hb : Below w.heap.size w w') : TA U ts xs lo tb sb f who L S w' := h.rstep (RStep.below h.t hb)
theorem TiesAt.cxkeep {U : List ByteArray} {w w' : World} {lo tb : Nat} {L : TL} {S : TS} {f : Nod -> Option Value} {who : Nod -> Nat} (h : TiesAt U w lo tb L S f who) {X : Nat -> Prop} (hf : Frm X w w') (hx : ∀ k, k < w.heap.size -> X k -> ∃ cur, w.heap[k]? = some (.cells cur 136 (0, 0))) : TiesAt U w' lo tb L S f who := by
 have kC : ∀ (k : Nat) (cur : Array Value) (t : TypeId), w.heap[k]? = some (.cells cur t (0, 0)) -> t ≠ 136 -> w'.heap[k]? = w.heap[k]? := by
  intro k cur t hk t1
  refine hf.block k (row_lt hk) fun hxx => ?_
  obtain ⟨cur', h'⟩ := hx k (row_lt hk) hxx
  rw [hk] at h'; injection h' with h'; injection h' with _ h'; exact t1 h'
 have kM : ∀ (k : Nat) (Gd : Value -> Prop) (m : List (Value × Value)), MapAt w Gd k m -> w'.heap[k]? = w.heap[k]? := fun k Gd m hk => hf.block k hk.lt fun hxx => by
  obtain ⟨cur', h'⟩ := hx k hk.lt hxx
  obtain ⟨es, c, q, -⟩ := hk
  rw [q] at h'; injection h' with h'; cases h'
 have kN : ∀ {α : Type} {enc : α -> Value} {cl : α -> List Value} {Gd : Value -> Prop} {tN tE : TypeId} {size nb mb : Nat} {sv : Value} {vs : List α}, NumAt enc cl Gd tN tE size w lo nb mb sv vs -> tN ≠ 136 -> tE ≠ 136 -> NumAt enc cl Gd tN tE size w' lo nb mb sv vs := by
  intro α enc cl Gd tN tE size nb mb sv vs hh h1 h2
  refine ⟨(kC nb _ _ hh.blk h1).trans hh.blk, hh.map.move (kM mb _ _ hh.map), owns_to hh.row fun g hg => ?_, hh.nd, hh.lob, hh.lom⟩
  obtain ⟨-, -, cur, q⟩ := owns_lt hh.row g hg
  exact kC g cur _ q h2
 obtain ⟨ms, hs1, hs2⟩ := h.sub
 obtain ⟨mw, hw1, hw2⟩ := h.wh
 exact ⟨(kC tb _ _ h.blk (by decide)).trans h.blk, kN h.th (by decide) (by decide), kN h.rl (by decide) (by decide), kN h.us (by decide) (by decide), ⟨ms, hs1.move (kM _ _ _ hs1.map), hs2⟩, ⟨mw, hw1.move (kM _ _ _ hw1), hw2⟩, h.ok, h.maps, h.ntu, h.stu, h.lob, h.los, h.low⟩
theorem TA.cxkeep {U : List ByteArray} {ts : List (Nod × Nod)} {xs : List ByteArray} {lo tb sb : Nat} {f : Nod -> Option Value} {who : Nod -> Nat} {L : TL} {S : TS} {w w' : World} (h : TA U ts xs lo tb sb f who L S w) {X : Nat -> Prop} (hf : Frm X w w') (hx : ∀ k, k < w.heap.size -> X k -> sb <= k /\ ∃ cur, w.heap[k]? = some (.cells cur 136 (0, 0))) : TA U ts xs lo tb sb f who L S w' := by
 refine ⟨h.t.cxkeep hf fun k hk e => (hx k hk e).2, h.s.keep hf fun k hk e => ?_, ?_, Nat.le_trans h.sb hf.size, h.tn⟩
 ·have := (hx k (Nat.lt_of_lt_of_le hk h.sb) e).1; omega
 ·refine h.r.move (fun Gd m hm => hf.block _ hm.lt fun e => ?_) fun g cur hg => hf.block g (row_lt hg) fun e => ?_
  ·obtain ⟨-, cur', h'⟩ := hx _ hm.lt e
   obtain ⟨es, c, q, -⟩ := hm
   rw [q] at h'; injection h' with h'; cases h'
  ·obtain ⟨-, cur', h'⟩ := hx g (row_lt hg) e
   rw [hg] at h'; injection h' with h'; injection h' with _ h'; revert h'; decide
theorem RStep.after {U : List ByteArray} {lo tb : Nat} {f : Nod -> Option Value} {who : Nod -> Nat} {L L' : TL} {S S' : TS} {w w' w'' : World} (h : RStep U lo tb f who L S w L' S' w') (ht : TiesAt U w'' lo tb L' S' f who) {X : Nat -> Prop} (hf : Frm X w' w'') (hx : ∀ k, k < w.heap.size -> ¬ X k) : RStep U lo tb f who L S w L' S' w'' :=
 ⟨ht, h.fr.trans hf (fun j hj e => absurd e (hx j hj)), h.own, h.loc, h.ths, h.uss, h.pre⟩
theorem RStep.kind {U : List ByteArray} {lo tb : Nat} {f : Nod -> Option Value} {who : Nod -> Nat} {L L' : TL} {S S' : TS} {w w' : World} (h0 : TiesAt U w lo tb L S f who) (r : RStep U lo tb f who L S w L' S' w') {k : Nat} {cur : Array Value} {t : TypeId} (hk : w.heap[k]? = some (.cells cur t (0, 0))) (h1 : t ≠ 223) (h2 : t ≠ 9) : w'.heap[k]? = w.heap[k]? :=
 r.fr.block k (row_lt hk) fun hx => by
  rcases h0.rl.kind hx hk with e | e
  ·exact h1 e
  ·exact h2 e
theorem RStep.tie {U : List ByteArray} {lo tb : Nat} {f : Nod -> Option Value} {who : Nod -> Nat} {L L' : TL} {S S' : TS} {w w' : World} (r : RStep U lo tb f who L S w L' S' w') : tieL L' = tieL L := by
 rw [r.loc]; rfl
theorem WayAt.rstep {U : List ByteArray} {lo tb : Nat} {f : Nod -> Option Value} {who : Nod -> Nat} {L L' : TL} {S S' : TS} {w w' : World} {In : Nat -> Prop} {t : WayT} {v : Value} (h : WayAt w In t v) (h0 : TiesAt U w lo tb L S f who) (r : RStep U lo tb f who L S w L' S' w') : WayAt w' In t v :=
 h.move2 fun g cur hg hc => ⟨hg, r.kind h0 hc (by decide) (by decide)⟩
theorem cxN_one (S : TS) (l : List Nod) : ∀ z ∈ l.map (cxN S), z.oneCell' = true := by
 intro z hz
 obtain ⟨y, -, rfl⟩ := List.mem_map.1 hz
 rfl
theorem map_cx_le {S S' : TS} (hl : S.le S') {l : List Nod} (hk : ∀ y ∈ l, Kn S y) : l.map (cxN S') = l.map (cxN S) := List.map_congr_left fun y hy => cxN_le hl (hk y hy)
theorem TA.subs {U : List ByteArray} {ts : List (Nod × Nod)} {xs : List ByteArray} {lo tb sb : Nat} {f : Nod -> Option Value} {who : Nod -> Nat} {L : TL} {S : TS} {w : World} (h : TA U ts xs lo tb sb f who L S w) {x : Nod} (kx : Kn S x) :
  ∃ v, (Instr.lookup 179 (.map (some L.ms)) (cxN S x) false).run Tryz.prog w = .ok v w /\ CxRow w v ((subsOf ts x).map (cxN S)) /\ (subsOf ts x = [] -> v = .slice none 0 0 \/ ∃ g c, v = .slice (some ⟨g, 0, none⟩) 0 c) /\ (∀ g n c, v = .slice (some ⟨g, 0, none⟩) n c -> g < sb /\ ∃ cur, w.heap[g]? = some (.cells cur 136 (0, 0))) := by
 obtain ⟨m, h1, h2⟩ := h.t.sub
 have hl := (map_look cx_ok Tryz.underlying179 h1.map (h.t.ok.good kx) (Tryz.zeroValue170 w)).2
 rw [h2.2.1 x kx] at hl
 cases hf : f x with
 | none =>
  rw [hf] at hl
  rw [h.s.no x hf]
  exact ⟨_, hl, CxRow.nil _ _ _, fun _ => Or.inl rfl, fun g n c e => by cases e⟩
 | some v =>
  rw [hf] at hl
  obtain ⟨r1, r2⟩ := h.s.row x v hf
  refine ⟨v, hl, owns_cxrow (by rw [List.length_map]; exact r1), fun e => ?_, fun g n c e => ?_⟩
  ·rcases r1.2 with ⟨rfl, -⟩ | ⟨g, cap, cur, rfl, -⟩
   ·exact Or.inl rfl
   ·right; rw [e]; exact ⟨g, cap, rfl⟩
  ·have hg : v.ownBlock = some g := by rw [e]; rfl
   obtain ⟨-, -, cur, q⟩ := owns_lt r1 g hg
   exact ⟨r2 g hg, cur, q⟩
end Go.Proofs.YtalmoiogbdahcaaGreat
