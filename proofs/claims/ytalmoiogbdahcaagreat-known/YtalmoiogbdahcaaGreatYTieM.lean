import Derived.Test.YtalmoiogbdahcaaGreatYTieF
import Derived.Deep.CutRange
namespace Go.Proofs.YtalmoiogbdahcaaGreat
set_option maxRecDepth 100000
set_option maxHeartbeats 8000000
open Go.RowKit
theorem map_put_any {P : Program} {t kt et : TypeId} {Gd : Value -> Prop} (K : KeyOk P kt Gd) (ht : P.underlying t = some (.map kt et)) {w : World} {b : Nat} {m : List (Value × Value)} (h : MapAt w Gd b m) {k : Value} (hk : Gd k) (v : Value) :
  ∃ w' m', (Instr.mapUpdate t (.map (some b)) k v).run P w = .ok () w' /\ MapAt w' Gd b m' /\ getM m' k = some v /\ (∀ x, x ≠ k -> getM m' x = getM m x) /\ (∀ p ∈ m', p = (k, v) \/ p ∈ m) /\ w.grownBy w' (some b) /\ w'.heap.size = w.heap.size := by
 cases hg : getM m k with
 | none =>
  obtain ⟨w', h1, h2, h3, h4⟩ := map_put_new K ht h hk hg v
  refine ⟨w', _, h1, h2, ?_, ?_, ?_, h3, h4⟩
  ·rw [getM_append_none hg]; classical unfold getM; simp
  ·intro x hx
   cases hgx : getM m x with
   | none => rw [getM_append_none hgx]; classical unfold getM; simp [Ne.symm hx]
   | some y => exact getM_append_some hgx _
  ·intro p hp
   rcases List.mem_append.1 hp with hp | hp
   ·exact Or.inr hp
   ·simp at hp; exact Or.inl hp
 | some u =>
  obtain ⟨w', m', h1, h2, h3, h4, h5, h6⟩ := map_put_old K ht h hk hg v
  refine ⟨w', m', h1, h2, h4, h3, ?_, h5, h6⟩
  intro p hp
  obtain ⟨es, c, q1, q2, q3, q4⟩ := h2
  have hp2 : getM m' p.1 = some p.2 := getM_of q4 hp
  classical
  by_cases e : p.1 = k
  ·left
   rw [e, h4] at hp2
   injection hp2 with hp2
   rw [← e, hp2]
  ·right
   rw [h3 _ e] at hp2
   exact getM_mem hp2
theorem TA.put {U : List ByteArray} {ts : List (Nod × Nod)} {xs : List ByteArray} {lo tb sb : Nat} {f : Nod -> Option Value} {who : Nod -> Nat} {L : TL} {S : TS} {w : World} (h : TA U ts xs lo tb sb f who L S w) {x : Nod} (kx : Kn S x) (c : Nat) :
  ∃ w', (Instr.mapUpdate 180 (.map (some L.mw)) (cxN S x) (.int .u64 c)).run Tryz.prog w = .ok () w' /\ TA U ts xs lo tb sb f (upd who x c) L S w' /\ w.grownBy w' (some L.mw) /\ w'.heap.size = w.heap.size := by
 obtain ⟨m, h1, h2, h3, h4, h5⟩ := h.t.wh
 obtain ⟨w', m', hr, m1, m2, m3, m4, hg, hz⟩ := map_put_any cx_ok Tryz.underlying180 h1 (h.t.ok.good kx) (.int .u64 c)
 obtain ⟨⟨a1, a2, a3, a4, a5⟩, ⟨b1, b2, b3, b4⟩, ⟨c1, c2, c3⟩, ⟨d1, d2⟩, e1⟩ := maps_ne h.t.maps
 have hmw : ∃ es cl, w.heap[L.mw]? = some (.map es cl) := by obtain ⟨es, cl, q, -⟩ := h1; exact ⟨es, cl, q⟩
 obtain ⟨es, cl, hmw⟩ := hmw
 have kC : ∀ (k : Nat) (cur : Array Value) (t : TypeId), w.heap[k]? = some (.cells cur t (0, 0)) -> w'.heap[k]? = w.heap[k]? := by
  intro k cur t hk
  refine hg.block k (row_lt hk) fun e => ?_
  have e2 : L.mw = k := by first | exact Option.some.inj e | exact (Option.some.inj e).symm
  rw [← e2, hmw] at hk; injection hk with hk; cases hk
 have kM : ∀ (k : Nat), k < w.heap.size -> k ≠ L.mw -> w'.heap[k]? = w.heap[k]? := fun k hk hne => hg.block k hk fun e => hne (by first | exact Option.some.inj e | exact (Option.some.inj e).symm)
 have kN : ∀ {α : Type} {enc : α -> Value} {cl : α -> List Value} {Gd : Value -> Prop} {tN tE : TypeId} {size nb mb : Nat} {sv : Value} {vs : List α}, NumAt enc cl Gd tN tE size w lo nb mb sv vs -> mb ≠ L.mw -> NumAt enc cl Gd tN tE size w' lo nb mb sv vs := by
  intro α enc cl Gd tN tE size nb mb sv vs hh hne
  refine ⟨(kC nb _ _ hh.blk).trans hh.blk, hh.map.move (kM mb hh.map.lt hne), owns_to hh.row fun g hg => ?_, hh.nd, hh.lob, hh.lom⟩
  obtain ⟨-, -, cur, q⟩ := owns_lt hh.row g hg
  exact kC g cur _ q
 obtain ⟨ms, hs1, hs2⟩ := h.t.sub
 refine ⟨w', hr, ⟨⟨(kC tb _ _ h.t.blk).trans h.t.blk, kN h.t.th b4, kN h.t.rl c3, kN h.t.us d2, ⟨ms, hs1.move (kM _ hs1.lt e1), hs2⟩, ⟨m', m1, ?_, ?_, ?_, ?_⟩, h.t.ok, h.t.maps, h.t.ntu, h.t.stu, h.t.lob, h.t.los, h.t.low⟩, ?_, ?_, by rw [hz]; exact h.sb, h.tn⟩, hg, hz⟩
 ·intro p hp
  rcases m4 p hp with e | e
  ·rw [e]; exact ⟨x, kx, rfl⟩
  ·exact h2 p e
 ·intro y ky
  unfold upd
  split
  ·rename_i e; rw [e, m2]; rfl
  ·rename_i e
   rw [m3 _ (fun e2 => e (h.t.ok.inj ky kx e2))]; exact h3 y ky
 ·intro y ky
  unfold upd
  rw [if_neg (fun e => ky (by rw [e]; exact kx))]; exact h4 y ky
 ·intro p hp
  rcases m4 p hp with e | e
  ·rw [e]; exact ⟨c, rfl⟩
  ·exact h5 p e
 ·have hfr : Frm (fun k => k = L.mw) w w' := Frm.of_grown hg (fun k e => (Option.some.inj e).symm)
  refine h.s.keep hfr fun k hk e cur hc => ?_
  rw [e, hmw] at hc; injection hc with hc; cases hc
 ·exact h.r.move (fun Gd m hm => kM _ hm.lt a5) fun g cur hg' => kC g cur _ hg'
structure GStep (U : List ByteArray) (ts : List (Nod × Nod)) (xs : List ByteArray) (lo tb sb : Nat) (f : Nod -> Option Value) (who : Nod -> Nat) (L : TL) (S : TS) (w : World) (who' : Nod -> Nat) (L' : TL) (S' : TS) (w' : World) : Prop where
 at' : TA U ts xs lo tb sb f who' L' S' w'
 fr : Frm (fun k => relX L k \/ k = L.mw) w w'
 own : ∀ k, L'.sr.ownBlock = some k -> L.sr.ownBlock = some k \/ w.heap.size <= k
 loc : L' = { L with sr := L'.sr }
 ths : S'.ths = S.ths
 uss : S'.uss = S.uss
 pre : S.rels <+: S'.rels
 _dom : who = who
theorem GStep.le {U : List ByteArray} {ts : List (Nod × Nod)} {xs : List ByteArray} {lo tb sb : Nat} {f : Nod -> Option Value} {who who' : Nod -> Nat} {L L' : TL} {S S' : TS} {w w' : World} (h : GStep U ts xs lo tb sb f who L S w who' L' S' w') : S.le S' := ⟨by rw [h.ths]; exact List.prefix_refl _, h.pre⟩
theorem GStep.of {U : List ByteArray} {ts : List (Nod × Nod)} {xs : List ByteArray} {lo tb sb : Nat} {f : Nod -> Option Value} {who : Nod -> Nat} {L L' : TL} {S S' : TS} {w w' : World} (h : TA U ts xs lo tb sb f who L S w) (r : RStep U lo tb f who L S w L' S' w') : GStep U ts xs lo tb sb f who L S w who L' S' w' :=
 ⟨h.rstep r, r.fr.mono fun _ _ e => Or.inl e, r.own, r.loc, r.ths, r.uss, r.pre, rfl⟩
theorem GStep.trans {U : List ByteArray} {ts : List (Nod × Nod)} {xs : List ByteArray} {lo tb sb : Nat} {f : Nod -> Option Value} {who who' who'' : Nod -> Nat} {L L' L'' : TL} {S S' S'' : TS} {w w' w'' : World} (h : GStep U ts xs lo tb sb f who L S w who' L' S' w') (k : GStep U ts xs lo tb sb f who' L' S' w' who'' L'' S'' w'') : GStep U ts xs lo tb sb f who L S w who'' L'' S'' w'' := by
 refine ⟨k.at', h.fr.trans k.fr ?_, ?_, by rw [k.loc, h.loc], k.ths.trans h.ths, k.uss.trans h.uss, h.pre.trans k.pre, rfl⟩
 ·intro j hj hx
  rcases hx with (e | e | e) | e
  ·rw [h.loc] at e; exact Or.inl (Or.inl e)
  ·rw [h.loc] at e; exact Or.inl (Or.inr (Or.inl e))
  ·rcases h.own j e with e | e
   ·exact Or.inl (Or.inr (Or.inr e))
   ·omega
  ·rw [h.loc] at e; exact Or.inr e
 ·intro j hj
  rcases k.own j hj with e | e
  ·exact h.own j e
  ·exact Or.inr (Nat.le_trans h.fr.size e)
theorem grows_any (HW : Hid TWayC) {U : List ByteArray} {ts : List (Nod × Nod)} {xs : List ByteArray} (cov : Cov U xs) {lo tb sb : Nat} {f : Nod -> Option Value} {who : Nod -> Nat} (hs : ∀ y, who y < 2 ^ 64) {L : TL} {S : TS} {w : World} {x : Nod} (h : TA U ts xs lo tb sb f who L S w) (kx : Kn S x) :
  Calls Tryz.prog 177 #[.pointer (some ⟨tb, 0, none⟩), cxN S x] w fun e w' => e = .returned (.bool (decide (crW ts who x (ruleN xs x) ≠ who x))) /\ ∃ L' S', GStep U ts xs lo tb sb f who L S w (upd who x (crW ts who x (ruleN xs x))) L' S' w' := by
 have HWY : Hid (∀ w0, Below w.heap.size w w0 -> Calls Tryz.prog 204 #[.pointer (some ⟨tb, 0, none⟩), cxN S x] w0 fun e w' => ∃ is a b y n c, e = .returned (.agg #[.int .i64 is, .string a, .string b, .slice y n c]) /\ WayAt w' (fun _ => True) (ruleN xs x) (.agg #[.int .i64 is, .string a, .string b, .slice y n c]) /\ Below w.heap.size w w' /\ w'.cell? ⟨tb, 5, none⟩ = some (.map (some L.mw))) := by
  intro w0 hb0
  have h0 := h.below hb0
  refine (HW.out h0.t h0.r kx (h.t.okx kx).1 (h.t.okx kx).2).mono ?_
  rintro e w1 ⟨is, a, b, y, n, c, he, hw, hb⟩
  have hbb := hb0.trans (hb.mono hb0.size)
  exact ⟨is, a, b, y, n, c, he, hw, hbb, (h.below hbb).t.cellN rfl (j := 5) rfl⟩
 have HTD : Hid (∀ w1 v, Below w.heap.size w w1 -> WayAt w1 (fun _ => True) (ruleN xs x) v -> Calls Tryz.prog 203 #[.pointer (some ⟨tb, 0, none⟩), cxN S x, v] w1 fun e w2 => e = .returned (.int .u64 (crW ts who x (ruleN xs x))) /\ w2.cell? ⟨tb, 5, none⟩ = some (.map (some L.mw)) /\ ∃ w3, (Instr.mapUpdate 180 (.map (some L.mw)) (cxN S x) (.int .u64 (crW ts who x (ruleN xs x)))).run Tryz.prog w2 = .ok () w3 /\ w3.cell? ⟨tb, 5, none⟩ = some (.map (some L.mw)) /\ (Instr.lookup 180 (.map (some L.mw)) (cxN S x) false).run Tryz.prog w3 = .ok (.int .u64 (crW ts who x (ruleN xs x))) w3 /\ ∃ L' S', GStep U ts xs lo tb sb f who L S w (upd who x (crW ts who x (ruleN xs x))) L' S' w3) := by
  intro w1 v hb1 hv
  refine (told_all hs (ruleN xs x) L S w1 x v (h.below hb1) hv (cov.rel x) (cov.lv x) kx).mono ?_
  rintro e w2 ⟨he, L2, S2, r2⟩
  have r := (RStep.below h.t hb1).trans r2
  have t2 := h.rstep r
  have k2 := kx.le r.le
  obtain ⟨w3, hr3, t3, g3, z3⟩ := t2.put k2 (crW ts who x (ruleN xs x))
  have emw : L2.mw = L.mw := by rw [r.loc]
  have hlk := t3.who k2
  have ew : upd who x (crW ts who x (ruleN xs x)) x = crW ts who x (ruleN xs x) := by unfold upd; rw [if_pos rfl]
  rw [ew] at hlk
  rw [emw, cxN_le r.le kx] at hr3 hlk
  have hfr : Frm (fun k => k = L.mw) w2 w3 := Frm.of_grown g3 (fun k e => by rw [← Option.some.inj e, emw])
  refine ⟨he, t2.t.cellN (L := L) r.tie (j := 5) rfl, w3, hr3, t3.t.cellN (L := L) r.tie (j := 5) rfl, hlk, L2, S2, t3, (r.fr.mono fun _ _ e => Or.inl e).trans hfr (fun j _ e => Or.inr e), r.own, r.loc, r.ths, r.uss, r.pre, rfl⟩
 have c5 := row_cell h.t.blk (j := 5) rfl
 have hlk0 := h.who kx
 generalize cxN S x = cx at *
 generalize crW ts who x (ruleN xs x) = cr at *
 obtain ⟨wx, hwx⟩ : ∃ wx, who x = wx := ⟨_, rfl⟩
 rw [hwx] at hlk0 ⊢
 clear h kx hwx hs cov
 go_enter Tryz.func177, Tryz.ntmps177
 go_wp2
 go_cut [] from 12 to 22 (fun wx => wx.cell? ⟨tb, 5, none⟩ = some (.map (some L.mw)) /\ (Instr.lookup 180 (.map (some L.mw)) cx false).run Tryz.prog wx = .ok (.int .u64 cr) wx /\ ∃ L' S', GStep U ts xs lo tb sb f who L S w (upd who x cr) L' S' wx)
 case first =>
  go_region_with (first | (go_at_call 204; refine (HWY.out _ (by repeat (first | exact Below.refl _ _ | refine Below.setCell ?_ (by first | exact Nat.le_refl _ | (simp; done) | (simp; omega)) _ | refine below_drewN ?_ _ | refine Below.drew ?_ | refine Below.alloc ?_ (by first | exact Nat.le_refl _ | (simp; done) | (simp; omega)) _))).mono ?_; rintro e w1 ⟨is, a, b, y, n, c, rfl, hwy, hb1, d5⟩; have HWW : Hid (WayAt w1 (fun _ => True) (ruleN xs x) (.agg #[.int .i64 is, .string a, .string b, .slice y n c])) := hwy; clear hwy) | (go_at_call 203; refine (HTD.out _ _ hb1 HWW.out).mono ?_; rintro e w2 ⟨rfl, e5, w3, hup, f5, hlk3, hG⟩; have HG : Hid (∃ L' S', GStep U ts xs lo tb sb f who L S w (upd who x cr) L' S' w3) := hG; clear hG))
  all_goals (go_wp2_with fail; go_meet)
  all_goals exact ⟨f5, hlk3, HG.out⟩
 case rest =>
  obtain ⟨g5, hlk3, hG⟩ := hcut
  have HG : Hid (∃ L' S', GStep U ts xs lo tb sb f who L S w (upd who x cr) L' S' wc) := hG
  clear hG HTD HWY
  go_wp2
  go_ret
  refine ⟨ret_bool ?_, HG.out⟩
  by_cases e : cr = wx
  ·rw [e]; simp
  ·have e2 : ¬ (cr : Int) = (wx : Int) := by omega
   simp [e, e2]
def NotTie (L : TL) (sb : Nat) (w : World) (k : Nat) : Prop :=
 (sb <= k /\ ∃ cur, w.heap[k]? = some (.cells cur 136 (0, 0))) \/ (∃ cur t, w.heap[k]? = some (.cells cur t (0, 0)) /\ t ∉ [136, 182, 176, 223, 75, 9, 106]) \/
   (∃ es cl, w.heap[k]? = some (.map es cl) /\ k ∉ [L.mb, L.mt, L.mr, L.mu, L.ms, L.mw])
theorem TA.keep {U : List ByteArray} {ts : List (Nod × Nod)} {xs : List ByteArray} {lo tb sb : Nat} {f : Nod -> Option Value} {who : Nod -> Nat} {L : TL} {S : TS} {w w' : World} (h : TA U ts xs lo tb sb f who L S w) {X : Nat -> Prop} (hf : Frm X w w') (hx : ∀ k, k < w.heap.size -> X k -> NotTie L sb w k) : TA U ts xs lo tb sb f who L S w' := by
 have kC : ∀ (k : Nat) (cur : Array Value) (t : TypeId), w.heap[k]? = some (.cells cur t (0, 0)) -> t ∈ [182, 176, 223, 75, 9, 106] -> w'.heap[k]? = w.heap[k]? := by
  intro k cur t hk t1
  refine hf.block k (row_lt hk) fun hxx => ?_
  rcases hx k (row_lt hk) hxx with ⟨-, cur', h'⟩ | ⟨cur', t', h', hn⟩ | ⟨es, cl, h', -⟩
  ·rw [hk] at h'; injection h' with h'; injection h' with _ h'
   rw [h'] at t1; revert t1; decide
  ·rw [hk] at h'; injection h' with h'; injection h' with _ h'
   exact hn (by rw [← h']; exact List.mem_cons_of_mem _ t1)
  ·rw [hk] at h'; injection h' with h'; cases h'
 have kM : ∀ (k : Nat) (Gd : Value -> Prop) (m : List (Value × Value)), MapAt w Gd k m -> k ∈ [L.mb, L.mt, L.mr, L.mu, L.ms, L.mw] -> w'.heap[k]? = w.heap[k]? := fun k Gd m hk hm => hf.block k hk.lt fun hxx => by
  obtain ⟨es0, c0, q, -⟩ := hk
  rcases hx k (Array.getElem?_eq_some_iff.1 q).1 hxx with ⟨-, cur', h'⟩ | ⟨cur', t', h', hn⟩ | ⟨es, cl, h', hn⟩
  ·rw [q] at h'; injection h' with h'; cases h'
  ·rw [q] at h'; injection h' with h'; cases h'
  ·exact hn hm
 have kN : ∀ {α : Type} {enc : α -> Value} {cl : α -> List Value} {Gd : Value -> Prop} {tN tE : TypeId} {size nb mb : Nat} {sv : Value} {vs : List α}, NumAt enc cl Gd tN tE size w lo nb mb sv vs -> tN ∈ [182, 176, 223, 75, 9, 106] -> tE ∈ [182, 176, 223, 75, 9, 106] -> mb ∈ [L.mb, L.mt, L.mr, L.mu, L.ms, L.mw] -> NumAt enc cl Gd tN tE size w' lo nb mb sv vs := by
  intro α enc cl Gd tN tE size nb mb sv vs hh h1 h2 h3
  refine ⟨(kC nb _ _ hh.blk h1).trans hh.blk, hh.map.move (kM mb _ _ hh.map h3), owns_to hh.row fun g hg => ?_, hh.nd, hh.lob, hh.lom⟩
  obtain ⟨-, -, cur, q⟩ := owns_lt hh.row g hg
  exact kC g cur _ q h2
 obtain ⟨ms, hs1, hs2⟩ := h.t.sub
 obtain ⟨mw, hw1, hw2⟩ := h.t.wh
 refine ⟨⟨(kC tb _ _ h.t.blk (by decide)).trans h.t.blk, kN h.t.th (by decide) (by decide) (by simp), kN h.t.rl (by decide) (by decide) (by simp), kN h.t.us (by decide) (by decide) (by simp), ⟨ms, hs1.move (kM _ _ _ hs1.map (by simp)), hs2⟩, ⟨mw, hw1.move (kM _ _ _ hw1 (by simp)), hw2⟩, h.t.ok, h.t.maps, h.t.ntu, h.t.stu, h.t.lob, h.t.los, h.t.low⟩, ?_, ?_, Nat.le_trans h.sb hf.size, h.tn⟩
 ·refine h.s.keep hf fun k hk e cur hc => ?_
  rcases hx k (Nat.lt_of_lt_of_le hk h.sb) e with ⟨hb, -⟩ | ⟨cur', t', h', hn⟩ | ⟨es, cl, h', -⟩
  ·omega
  ·rw [hc] at h'; injection h' with h'; injection h' with _ h'; exact hn (by rw [← h']; simp)
  ·rw [hc] at h'; injection h' with h'; cases h'
 ·exact h.r.move (fun Gd m hm => kM _ Gd m hm (by simp)) fun g cur hg => kC g cur _ hg (by decide)
theorem NumAt.enc {α : Type} {enc enc' : α -> Value} {Gd : Value -> Prop} {tN tE : TypeId} {size : Nat} {w : World} {lo nb mb : Nat} {sv : Value} {vs : List α} (h : NumAt enc (fun a => [enc a]) Gd tN tE size w lo nb mb sv vs) (he : ∀ a ∈ vs, enc' a = enc a) : NumAt enc' (fun a => [enc' a]) Gd tN tE size w lo nb mb sv vs := by
 have e1 : ∀ (l : List α) (n : Nat), (∀ a ∈ l, enc' a = enc a) -> numF enc' n l = numF enc n l := by
  intro l
  induction l with
  | nil => intro n _; rfl
  | cons a l ih => intro n hh; rw [numF, numF, hh a (by simp), ih (n + 1) (fun b hb => hh b (by simp [hb]))]
 have e2 : ∀ (l : List α), (∀ a ∈ l, enc' a = enc a) -> l.flatMap (fun a => [enc' a]) = l.flatMap (fun a => [enc a]) := by
  intro l
  induction l with
  | nil => intro _; rfl
  | cons a l ih => intro hh; rw [List.flatMap_cons, List.flatMap_cons, hh a (by simp), ih (fun b hb => hh b (by simp [hb]))]
 exact ⟨h.blk, by unfold numM; rw [e1 vs 0 he]; exact h.map, by rw [e2 vs he]; exact h.row, h.nd, h.lob, h.lom⟩
theorem flat1 {α : Type} (enc : α -> Value) (l : List α) : l.flatMap (fun a => [enc a]) = l.map enc := by
 induction l with
 | nil => rfl
 | cons a l ih => rw [List.flatMap_cons, ih]; rfl
structure MetAt (L : TL) (sb : Nat) (S : TS) (w : World) (lo nb mb : Nat) (sv : Value) (met : List Nod) : Prop where
 num : NumCx (cxN S) w lo nb mb sv met
 kn : ∀ y ∈ met, Kn S y
 ms : mb ∉ [L.mb, L.mt, L.mr, L.mu, L.ms, L.mw]
 svb : ∀ k, sv.ownBlock = some k -> sb <= k
theorem MetAt.not {L : TL} {sb : Nat} {S : TS} {w : World} {lo nb mb : Nat} {sv : Value} {met : List Nod} (h : MetAt L sb S w lo nb mb sv met) {k : Nat} (hk : numX nb mb sv k) : NotTie L sb w k := by
 rcases hk with rfl | rfl | hk
 ·exact Or.inr (Or.inl ⟨_, _, h.num.blk, by decide⟩)
 ·obtain ⟨es, c, q, -⟩ := h.num.map
  exact Or.inr (Or.inr ⟨es, c, q, h.ms⟩)
 ·exact Or.inl ⟨h.svb k hk, (owns_lt h.num.row k hk).2.2⟩
theorem MetAt.keep {L : TL} {sb : Nat} {S : TS} {w w' : World} {lo nb mb : Nat} {sv : Value} {met : List Nod} (h : MetAt L sb S w lo nb mb sv met) {X : Nat -> Prop} (hf : Frm X w w') (hx : ∀ k, numX nb mb sv k -> ¬ X k) : MetAt L sb S w' lo nb mb sv met := ⟨h.num.keep hf hx, h.kn, h.ms, h.svb⟩
theorem MetAt.gstep {U : List ByteArray} {ts : List (Nod × Nod)} {xs : List ByteArray} {lo tb sb : Nat} {f : Nod -> Option Value} {who who' : Nod -> Nat} {L L' : TL} {S S' : TS} {w w' : World} {lo2 nb mb : Nat} {sv : Value} {met : List Nod} (h : MetAt L sb S w lo2 nb mb sv met) (h0 : TA U ts xs lo tb sb f who L S w) (r : GStep U ts xs lo tb sb f who L S w who' L' S' w') : MetAt L' sb S' w' lo2 nb mb sv met := by
 have hk : ∀ k, numX nb mb sv k -> ¬ (relX L k \/ k = L.mw) := by
  intro k hk hx
  rcases hx with hx | hx
  ·rcases h.not hk with ⟨-, cur, hc⟩ | ⟨cur, t, hc, hn⟩ | ⟨es, cl, hc, hn⟩
   ·rcases h0.t.rl.kind hx hc with e | e <;> revert e <;> decide
   ·rcases h0.t.rl.kind hx hc with e | e
    ·exact hn (by rw [e]; decide)
    ·exact hn (by rw [e]; decide)
   ·rcases hx with e | e | e
    ·have := h0.t.rl.blk; rw [← e, hc] at this; injection this with this; cases this
    ·exact hn (by rw [e]; simp)
    ·obtain ⟨-, -, cur, q⟩ := owns_lt h0.t.rl.row k e; rw [q] at hc; injection hc with hc; cases hc
  ·rw [hx] at hk
   obtain ⟨m, hm, -⟩ := h0.t.wh
   have := h.num.kindM hk hm
   exact h.ms (by rw [← this]; simp)
 have hm := h.keep r.fr hk
 refine ⟨hm.num.enc fun a ha => cxN_le r.le (h.kn a ha), fun y hy => (h.kn y hy).le r.le, ?_, h.svb⟩
 rw [r.loc]; exact h.ms
theorem MetAt.below {L : TL} {sb : Nat} {S : TS} {w w' : World} {lo nb mb : Nat} {sv : Value} {met : List Nod} (h : MetAt L sb S w lo nb mb sv met) (hb : Below w.heap.size w w') : MetAt L sb S w' lo nb mb sv met := h.keep (X := fun _ => False) (Frm.of_below hb) fun _ _ e => e
theorem met_number {U : List ByteArray} {ts : List (Nod × Nod)} {xs : List ByteArray} {lo tb sb : Nat} {f : Nod -> Option Value} {who : Nod -> Nat} {L : TL} {S : TS} {w : World} {lo2 nb mb : Nat} {sv : Value} {met : List Nod} (h0 : TA U ts xs lo tb sb f who L S w) (h : MetAt L sb S w lo2 nb mb sv met) (hlo : lo2 <= w.heap.size) (hn : met.length <= 100000000) {x : Nod} (kx : Kn S x) :
  Calls Tryz.prog 135 #[.pointer (some ⟨nb, 0, none⟩), cxN S x] w fun e w' => (∃ i : Nat, e = .returned (.int .i64 i)) /\ ∃ sv', TA U ts xs lo tb sb f who L S w' /\ MetAt L sb S w' lo2 nb mb sv' (addN met x) /\ Frm (numX nb mb sv) w w' /\ (∀ k, sv'.ownBlock = some k -> sv.ownBlock = some k \/ w.heap.size <= k) := by
 refine (numCx_any (cxN S) x _ _ rfl h.num (h0.t.ok.good kx) (fun a ha e => h0.t.ok.inj (h.kn a ha) kx e) hlo hn).mono ?_
 rintro e w' ⟨he, sv', hn', hf, ho⟩
 refine ⟨⟨_, he⟩, sv', h0.keep hf fun k _ e => h.not e, ⟨hn', fun y hy => ?_, h.ms, fun k hk => ?_⟩, hf, ho⟩
 ·rcases mem_addN.1 hy with hy | hy
  ·exact h.kn y hy
  ·rw [hy]; exact kx
 ·rcases ho k hk with e | e
  ·exact h.svb k e
  ·exact Nat.le_trans h0.sb e
theorem SubAt.size {w : World} {lo sb sb' : Nat} {S : TS} {ts : List (Nod × Nod)} {f : Nod -> Option Value} (h : SubAt w lo sb S ts f) (hs : sb <= sb') : SubAt w lo sb' S ts f :=
 ⟨fun x v hv => ⟨(h.row x v hv).1, fun k hk => Nat.lt_of_lt_of_le ((h.row x v hv).2 k hk) hs⟩, h.no, h.kn, h.apart⟩
theorem TA.nstep {n : Nat} {U : List ByteArray} {ts : List (Nod × Nod)} {xs : List ByteArray} {lo tb : Nat} {f : Nod -> Option Value} {who : Nod -> Nat} {L L' : TL} {S S' : TS} {w w' : World} (h : TA U ts xs lo tb w.heap.size f who L S w) (r : NStep n U lo tb f who L S w L' S' w') : TA U ts xs lo tb w'.heap.size f who L' S' w' :=
 ⟨r.at', (h.s.nstep h.t r).size r.fr.size, h.r.nstep h.t r, Nat.le_refl _, h.tn⟩
theorem NStep.below {n : Nat} {U : List ByteArray} {lo tb : Nat} {f : Nod -> Option Value} {who : Nod -> Nat} {L L' : TL} {S S' : TS} {w0 w w' : World} (h : TiesAt U w lo tb L S f who) (hb : Below lo w0 w) (r : NStep n U lo tb f who L S w L' S' w') : Below lo w0 w' := by
 refine Frm.below hb r.fr (Nat.le_trans h.lob (Nat.le_of_lt (row_lt h.blk))) fun k _ e => ?_
 rcases e with e | e
 ·exact (h.th.lt e).2
 ·exact (h.rl.lt e).2
theorem sub_next {U : List ByteArray} {lo tb : Nat} {ts : List (Nod × Nod)} {f : Nod -> Option Value} {who : Nod -> Nat} {L : TL} {S : TS} {w : World} (ht : TiesAt U w lo tb L S f who) (hs : SubAt w lo w.heap.size S ts f) (hl : ts.length <= 50) {xs : List ByteArray} (hrl : RulesN w L.mb xs) {x y : Nod} (kx : Kn S x) (ky : Kn S y) {p q : Nat} (hpq : cxN S y = .complex .f64 p q) :
  ∃ v st w1, (Instr.mapEntry 179 (.map (some L.ms)) (cxN S x)).run Tryz.prog (w.alloc (.cells #[.complex .f64 p q] 136)) = .ok (.tuple #[v, goInt st]) w1 /\ (∃ o n c, v = .slice o n c) /\ ∃ v' w2, (Builtin.append_ #[170, 170] 170 #[v, .slice (some ⟨w.heap.size, 0, none⟩) 1 1]).run Tryz.prog w1 = .ok v' w2 /\ (∃ o n c, v' = .slice o n c) /\ ∃ w3, (Instr.entryStore 179 (.map (some L.ms)) (goInt st) v').run Tryz.prog w2 = .ok () w3 /\
   ∃ f', TiesAt U w3 lo tb L S f' who /\ SubAt w3 lo w3.heap.size S (ts ++ [(x, y)]) f' /\ RulesN w3 L.mb xs /\ Frm (fun k => lo <= k) w w3 /\ ∀ (k : Nat) (cur : Array Value) (t : TypeId), w.heap[k]? = some (.cells cur t (0, 0)) -> t ≠ 136 -> w3.heap[k]? = w.heap[k]? := by
 obtain ⟨m, e1, e2, e3, e4⟩ := ht.sub
 obtain ⟨⟨a1, a2, a3, a4, a5⟩, ⟨b1, b2, b3, b4⟩, ⟨c1, c2, c3⟩, ⟨d1, d2⟩, ee⟩ := maps_ne ht.maps
 have hlo : lo <= w.heap.size := Nat.le_trans ht.lob (Nat.le_of_lt (row_lt ht.blk))
 obtain ⟨wa, hwa⟩ : ∃ wa, w.alloc (.cells #[.complex .f64 p q] 136) = wa := ⟨_, rfl⟩
 have hba : Below w.heap.size w wa := by rw [← hwa]; exact (Below.refl _ _).alloc (Nat.le_refl _) _
 have hsa : wa.heap.size = w.heap.size + 1 := by rw [← hwa]; show (w.heap.push _).size = _; simp
 have hna : wa.heap[w.heap.size]? = some (.cells [Value.complex .f64 p q].toArray 136 (0, 0)) := by rw [← hwa]; exact alloc_new w [.complex .f64 p q] _
 have ea : EntAt wa CxG L.ms m := e1.move (hba.block _ e1.lt)
 obtain ⟨st, w1, o1, r1, g1, s1, q1, hst⟩ := ent_law cx_ok Tryz.underlying179 (z := .slice none 0 0) (fun u => Tryz.zeroValue170 u) ea (ht.ok.good kx)
 rw [e3 x kx] at r1
 obtain ⟨v, hv⟩ : ∃ v, (f x).getD (.slice none 0 0) = v := ⟨_, rfl⟩
 rw [hv] at r1
 have hlen : (subsOf ts x).length <= 50 := by
  unfold subsOf
  rw [List.length_map]
  exact Nat.le_trans (List.length_filter_le _ _) hl
 have own0 : w.ownsRow lo 136 1 v (subsOf ts x).length ((subsOf ts x).map (cxN S)) := by
  cases hf : f x with
  | none =>
   rw [hf] at hv
   rw [← hv, hs.no x hf]
   exact World.ownsRow_nil _ _ _ _
  | some u =>
   rw [hf] at hv
   rw [← hv]
   exact (hs.row x u hf).1
 have hms : ∃ es cl, w.heap[L.ms]? = some (.map es cl) := by obtain ⟨es, cl, q, -⟩ := e1; exact ⟨es, cl, q⟩
 obtain ⟨es0, cl0, hms⟩ := hms
 have hc1 : ∀ (k : Nat) (cur : Array Value) (t : TypeId), w.heap[k]? = some (.cells cur t (0, 0)) -> w1.heap[k]? = w.heap[k]? := by
  intro k cur t hk
  rw [← hba.block k (row_lt hk)]
  refine g1.block k (by rw [hsa]; have := row_lt hk; omega) fun e => ?_
  have e5 : L.ms = k := by first | exact Option.some.inj e | exact (Option.some.inj e).symm
  rw [← e5, hms] at hk; injection hk with hk; cases hk
 have own1 : w1.ownsRow lo 136 1 v (subsOf ts x).length ((subsOf ts x).map (cxN S)) := owns_to own0 fun g hg => by
  obtain ⟨-, -, cur, q⟩ := owns_lt own0 g hg
  exact hc1 g cur _ q
 have hn1 : w1.heap[w.heap.size]? = some (.cells [Value.complex .f64 p q].toArray 136 (0, 0)) := by
  rw [g1.block w.heap.size (by omega) (fun e => ?_)]
  ·exact hna
  ·have e5 : L.ms = w.heap.size := by first | exact Option.some.inj e | exact (Option.some.inj e).symm
   have := e1.lt; omega
 obtain ⟨i, hi, hzz⟩ := Option.map_eq_some_iff.1 Tryz.infoCx
 simp only [Prod.mk.injEq] at hzz
 obtain ⟨i1, i2, i3⟩ := hzz
 obtain ⟨v', w2, r2, o2, g2, -, n2⟩ := run_append_own_at (P := Tryz.prog) w1 lo 170 170 136 i (.complex .f64 0 0) 1 16 Tryz.underlying170 hi i1 i2 i3 rfl (by decide) v (subsOf ts x).length ((subsOf ts x).map (cxN S)) own1 ⟨w.heap.size, 0, none⟩ 1 1 [.complex .f64 p q] rfl
  (fun j u hj => by
    have hj0 : j = 0 := by
     cases j with
     | zero => rfl
     | succ j => simp at hj
    subst hj0
    exact row_cell hn1 hj) (by intro u hu; simp at hu; rw [hu]; rfl) (by unfold maxLen; omega) (by omega) (by omega)
 have hvm : ∀ k, v.ownBlock = some k -> k ≠ L.ms := by
  intro k hk e
  obtain ⟨-, -, cur, q⟩ := owns_lt own0 k hk
  rw [e, hms] at q; injection q with q; cases q
 have q2 : w2.heap[L.ms]? = some o1 := by
  rw [g2.block L.ms (by rw [s1, hsa]; have := e1.lt; omega) (fun e => hvm L.ms e.symm rfl)]; exact q1
 obtain ⟨w3, m', r3, t1, t2, t3, t4, g3, s3⟩ := hst w2 v' q2
 have hz2 : w1.heap.size <= w2.heap.size := g2.size
 have kC2 : ∀ (k : Nat) (cur : Array Value) (t : TypeId), w.heap[k]? = some (.cells cur t (0, 0)) -> v.ownBlock ≠ some k -> w3.heap[k]? = w.heap[k]? := by
  intro k cur t hk hne
  have h1 := hc1 k cur t hk
  have hk1 : k < w1.heap.size := row_lt (h1.trans hk)
  have h2 : w2.heap[k]? = w1.heap[k]? := g2.block k hk1 (fun e => hne e.symm)
  rw [g3.block k (by omega) (fun e => ?_), h2, h1]
  have e5 : L.ms = k := by first | exact Option.some.inj e | exact (Option.some.inj e).symm
  rw [← e5, hms] at hk; injection hk with hk; cases hk
 have kC : ∀ (k : Nat) (cur : Array Value) (t : TypeId), w.heap[k]? = some (.cells cur t (0, 0)) -> t ≠ 136 -> w3.heap[k]? = w.heap[k]? := by
  intro k cur t hk hne
  refine kC2 k cur t hk fun e => ?_
  obtain ⟨-, -, cur', q⟩ := owns_lt own0 k e
  rw [hk] at q; injection q with q; injection q with _ q; exact hne q
 have kM : ∀ (k : Nat) (Gd : Value -> Prop) (mm : List (Value × Value)), MapAt w Gd k mm -> k ≠ L.ms -> w3.heap[k]? = w.heap[k]? := by
  intro k Gd mm hk hne
  have hkl := hk.lt
  have e0 : some k ≠ some L.ms := fun e' => hne (Option.some.inj e')
  rw [g3.block k (by omega) e0, g2.block k (by omega) (fun e => ?_), g1.block k (by omega) e0, hba.block k hkl]
  obtain ⟨-, -, cur', q⟩ := owns_lt own0 k e.symm
  obtain ⟨es, c, q', -⟩ := hk
  rw [q'] at q; injection q with q; cases q
 have kN : ∀ {α : Type} {enc : α -> Value} {cl : α -> List Value} {Gd : Value -> Prop} {tN tE : TypeId} {size nb mb : Nat} {sv : Value} {vs : List α}, NumAt enc cl Gd tN tE size w lo nb mb sv vs -> tN ≠ 136 -> tE ≠ 136 -> mb ≠ L.ms -> NumAt enc cl Gd tN tE size w3 lo nb mb sv vs := by
  intro α enc cl Gd tN tE size nb mb sv vs hh h1 h2 h3
  refine ⟨(kC nb _ _ hh.blk h1).trans hh.blk, hh.map.move (kM mb _ _ hh.map h3), owns_to hh.row fun g hg => ?_, hh.nd, hh.lob, hh.lom⟩
  obtain ⟨-, -, cur, q⟩ := owns_lt hh.row g hg
  exact kC g cur _ q h2
 have hv'm : ∀ g, v'.ownBlock = some g -> g ≠ L.ms := by
  intro g hg e
  rcases n2 with n2 | n2
  ·exact hvm g (n2 ▸ hg) e
  ·rw [n2] at hg
   have := Option.some.inj hg
   have := e1.lt; omega
 have own3 : w3.ownsRow lo 136 1 v' ((subsOf ts x).length + 1) ((subsOf ts x).map (cxN S) ++ [.complex .f64 p q]) := owns_to o2 fun g hg => by
  obtain ⟨h1, -, cur, q⟩ := owns_lt o2 g hg
  exact g3.block g h1 fun e => hv'm g hg (by first | exact Option.some.inj e | exact (Option.some.inj e).symm)
 have hsub : ∀ z, subsOf (ts ++ [(x, y)]) z = subsOf ts z ++ (if x = z then [y] else []) := by
  intro z
  by_cases e : x = z
  ·simp [subsOf, List.filter_append, e]
  ·simp [subsOf, List.filter_append, e]
 obtain ⟨mw, hw1, hw2⟩ := ht.wh
 refine ⟨v, st, w1, by rw [hwa]; exact r1, ?_, v', w2, r2, ?_, w3, r3, fun z => if z = x then some v' else f z, ⟨(kC tb _ _ ht.blk (by decide)).trans ht.blk, kN ht.th (by decide) (by decide) b3, kN ht.rl (by decide) (by decide) c2, kN ht.us (by decide) (by decide) d1, ⟨m', t1, ?_, ?_, ?_⟩, ⟨mw, hw1.move (kM _ _ _ hw1 (Ne.symm ee)), hw2⟩, ht.ok, ht.maps, ht.ntu, ht.stu, ht.lob, ht.los, ht.low⟩, ⟨?_, ?_, ?_, ?_⟩, hrl.move (fun Gd mm hm => kM _ Gd mm hm a4) (fun g cur hg => kC g cur _ hg (by decide)), ?_, kC⟩
 ·obtain ⟨o, c, e⟩ := owns_form own0; exact ⟨o, _, c, e⟩
 ·obtain ⟨o, c, e⟩ := owns_form own3; exact ⟨o, _, c, e⟩
 ·intro r hr
  rcases t4 r hr with e | e
  ·exact ⟨x, kx, e⟩
  ·obtain ⟨r', hr', e'⟩ := List.mem_map.1 e
   obtain ⟨z, kz, ez⟩ := e2 r' hr'
   exact ⟨z, kz, by rw [← e']; exact ez⟩
 ·intro z kz
  show _ = if z = x then some v' else f z
  split
  ·rename_i e; rw [e]; exact t2
  ·rename_i e
   rw [t3 _ (fun e' => e (ht.ok.inj kz kx e'))]; exact e3 z kz
 ·intro z kz
  show (if z = x then some v' else f z) = none
  rw [if_neg (fun e => kz (by rw [e]; exact kx))]; exact e4 z kz
 ·intro z u hz
  have hz : (if z = x then some v' else f z) = some u := hz
  split at hz
  ·rename_i e
   injection hz with hz
   subst hz
   rw [e, hsub x, if_pos rfl, List.length_append, List.map_append, List.map_cons, List.map_nil, hpq]
   exact ⟨own3, fun k hk => (owns_lt own3 k hk).1⟩
  ·rename_i e
   obtain ⟨h1, h2⟩ := hs.row z u hz
   rw [hsub z, if_neg (fun e' => e e'.symm), List.append_nil]
   refine ⟨owns_to h1 fun g hg => ?_, fun k hk => by have := h2 k hk; omega⟩
   obtain ⟨-, -, cur, q⟩ := owns_lt h1 g hg
   refine kC2 g cur _ q fun e' => ?_
   cases hf : f x with
   | none => rw [hf] at hv; rw [← hv] at e'; cases e'
   | some v0 =>
    rw [hf] at hv
    rw [← hv] at e'
    exact e (hs.apart z x u v0 g hz hf hg e')
 ·intro z hz
  have hz : (if z = x then some v' else f z) = none := hz
  split at hz
  ·cases hz
  ·rename_i e
   rw [hsub z, if_neg (fun e' => e e'.symm), List.append_nil]
   exact hs.no z hz
 ·intro t ht'
  rcases List.mem_append.1 ht' with h1 | h1
  ·exact hs.kn t h1
  ·simp at h1; rw [h1]; exact ⟨kx, ky⟩
 ·have key : ∀ z u k, ¬ z = x -> f z = some u -> v'.ownBlock = some k -> u.ownBlock = some k -> False := by
   intro z u k e hz h1 h2
   have hlt := (hs.row z u hz).2 k h2
   rcases n2 with n2 | n2
   ·rw [n2] at h1
    cases hf : f x with
    | none => rw [hf] at hv; rw [← hv] at h1; cases h1
    | some v0 =>
     rw [hf] at hv
     rw [← hv] at h1
     exact e (hs.apart z x u v0 k hz hf h2 h1)
   ·rw [n2] at h1
    have := Option.some.inj h1
    omega
  intro z1 z2 u1 u2 k h1 h2 k1 k2
  have h1 : (if z1 = x then some v' else f z1) = some u1 := h1
  have h2 : (if z2 = x then some v' else f z2) = some u2 := h2
  split at h1
  ·rename_i e1'
   split at h2
   ·rename_i e2'; rw [e1', e2']
   ·rename_i e2'
    rw [← Option.some.inj h1] at k1
    exact (key z2 u2 k e2' h2 k1 k2).elim
  ·rename_i e1'
   split at h2
   ·rename_i e2'
    rw [← Option.some.inj h2] at k2
    exact (key z1 u1 k e1' h1 k2 k1).elim
   ·exact hs.apart z1 z2 u1 u2 k h1 h2 k1 k2
 ·refine ⟨?_, ?_, ?_, by omega, fun k hk hx => ?_⟩
  ·rw [g3.os, g2.os, g1.os, hba.os]
  ·rw [g3.tape, g2.tape, g1.tape, hba.tape]
  ·rw [g3.output, g2.output, g1.output, hba.output]
  ·have hk1 : k < lo := by omega
   have e0 : some k ≠ some L.ms := fun e' => by have := Option.some.inj e'; have := ht.los; omega
   rw [g3.block k (by omega) e0, g2.block k (by omega) (fun e => ?_), g1.block k (by omega) e0, hba.block k hk]
   have := (owns_lt own0 k e.symm).2.1; omega
theorem TA.user {U : List ByteArray} {ts : List (Nod × Nod)} {xs : List ByteArray} {lo tb : Nat} {f : Nod -> Option Value} {who : Nod -> Nat} {L : TL} {S : TS} {w w' : World} (h : TA U ts xs lo tb w.heap.size f who L S w) {y : Nod} (hy : y.isTh = true) {e : Ending} (hp : NumNdPost w lo L.nu L.mu L.su S.uss y e w') :
  e = .returned (.int .i64 (ixOf (addN S.uss y) y : Nat)) /\ ∃ su', TA U ts xs lo tb w'.heap.size f who { L with su := su' } { S with uss := addN S.uss y } w' /\ Frm (numX L.nu L.mu L.su) w w' := by
 obtain ⟨he, su', hn, hf, ho⟩ := hp
 obtain ⟨⟨a1, a2, a3, a4, a5⟩, ⟨b1, b2, b3, b4⟩, ⟨c1, c2, c3⟩, ⟨d1, d2⟩, e1⟩ := maps_ne h.t.maps
 have ht := h.t
 have kC : ∀ (k : Nat) (cur : Array Value) (t : TypeId), w.heap[k]? = some (.cells cur t (0, 0)) -> t ≠ 176 -> t ≠ 75 -> w'.heap[k]? = w.heap[k]? := by
  intro k cur t hk t1 t2
  refine hf.block k (row_lt hk) fun hx => ?_
  rcases ht.us.kind hx hk with e | e
  ·exact t1 e
  ·exact t2 e
 have kM : ∀ (k : Nat) (Gd : Value -> Prop) (m : List (Value × Value)), MapAt w Gd k m -> k ≠ L.mu -> w'.heap[k]? = w.heap[k]? := fun k Gd m hk hne => hf.block k hk.lt fun hx => hne (ht.us.kindM hx hk)
 have kR : NumSt Value.string w' lo L.nr L.mr L.sr S.rels := by
  have hh := ht.rl
  refine ⟨(kC L.nr _ _ hh.blk (by decide) (by decide)).trans hh.blk, hh.map.move (kM L.mr _ _ hh.map c1), owns_to hh.row fun g hg => ?_, hh.nd, hh.lob, hh.lom⟩
  obtain ⟨-, -, cur, q⟩ := owns_lt hh.row g hg
  exact kC g cur _ q (by decide) (by decide)
 have kT : NumNd w' lo L.nt L.mt L.st S.ths := ht.us.aside ht.th (by decide) (Ne.symm ht.ntu) (Ne.symm b2) (fun k hk e => ht.stu k e hk) hf
 have ok' : TS.Ok U { S with uss := addN S.uss y } := by
  refine ⟨ht.ok.tl, ht.ok.ul, ht.ok.rn, ht.ok.rU, ht.ok.r0, ht.ok.tn, ?_, ht.ok.Us⟩
  intro q hq
  rcases mem_addN.1 hq with hq | hq
  ·exact ht.ok.un q hq
  ·rw [hq]; exact hy
 obtain ⟨ms, hs1, hs2⟩ := ht.sub
 obtain ⟨mw, hw1, hw2⟩ := ht.wh
 refine ⟨he, su', ⟨⟨(kC tb _ _ ht.blk (by decide) (by decide)).trans ht.blk, kT, kR, hn, ⟨ms, hs1.move (kM _ _ _ hs1.map (Ne.symm d1)), hs2⟩, ⟨mw, hw1.move (kM _ _ _ hw1 (Ne.symm d2)), hw2⟩, ok', ht.maps, ht.ntu, ?_, ht.lob, ht.los, ht.low⟩, ?_, ?_, Nat.le_refl _, h.tn⟩, hf⟩
 ·intro k hk e
  rcases ho k e with e2 | e2
  ·exact ht.stu k hk e2
  ·have := (owns_lt ht.th.row k hk).1; omega
 ·have h2 : SubAt w' lo w.heap.size S ts f := h.s.keep hf fun k _ hx cur hc => by
   rcases ht.us.kind hx hc with e | e <;> revert e <;> decide
  exact ⟨fun x v hv => ⟨(h2.row x v hv).1, fun k hk => Nat.lt_of_lt_of_le ((h2.row x v hv).2 k hk) hf.size⟩, h2.no, h2.kn, h2.apart⟩
 ·exact h.r.move (fun Gd m hm => kM _ Gd m hm a3) fun g cur hg => kC g cur _ hg (by decide) (by decide)
structure Bld (U : List ByteArray) (ts : List (Nod × Nod)) (xs : List ByteArray) (lo tb : Nat) (f : Nod -> Option Value) (who : Nod -> Nat) (L : TL) (S : TS) (w0 w : World) : Prop where
 ta : TA U ts xs lo tb w.heap.size f who L S w
 b : Below lo w0 w
 us : ∀ u, u ∈ S.uss ↔ u.isTh = true /\ ∃ t ∈ ts, t.2 = u
 ul : S.uss.length <= ts.length
 tl : S.ths.length <= 2 * ts.length
 th : ∀ y : Nod, y.isTh = true -> ∀ i, i < 64 -> ((who y).testBit i = true ↔ S.uss[i]? = some y)
 no : ∀ y : Nod, y.isTh = false -> who y = 0
 sm : ∀ y, who y < 2 ^ 64
theorem only_any (i : Nat) (h : i < 64) (w : World) : Calls Tryz.prog 178 #[.int .i64 i] w fun e w' => e = .returned (.int .u64 (2 ^ i : Nat)) /\ w' = w := by
 have hw : IntKind.u64.wrap ((2 : Int) ^ i) = ((2 ^ i : Nat) : Int) := by
  have e : ((2 : Int) ^ i) = ((2 ^ i : Nat) : Int) := by simp
  rw [e, wrap_u64 (Nat.pow_lt_pow_right (by decide) h)]
 have h0 : (0 : Int) <= i := by omega
 have h1 : (i : Int) <= 64 := by omega
 have HW : Hid (IntKind.u64.wrap ((2 : Int) ^ i) = ((2 ^ i : Nat) : Int)) := hw
 clear hw
 go_enter Tryz.func178, Tryz.ntmps178
 go_wp2
 go_ret
 refine ⟨?_, rfl⟩
 show Ending.returned (.int .u64 (IntKind.u64.wrap ((2 : Int) ^ i))) = _
 rw [HW.out]
theorem bit_only {i j : Nat} : (2 ^ i).testBit j = true ↔ i = j := by
 rw [Nat.testBit_two_pow]; simp
theorem Bld.thing {U : List ByteArray} {ts : List (Nod × Nod)} {xs : List ByteArray} {lo tb : Nat} {f f' : Nod -> Option Value} {who : Nod -> Nat} {L0 L : TL} {S0 S : TS} {w0 wp w : World} {x y : Nod} (h : Bld U ts xs lo tb f who L0 S0 w0 wp) (hy : y.isTh = true) (htl : S.ths.length <= S0.ths.length + 2) (hus : S.uss = addN S0.uss y) (hl : ts.length < 50)
  (hta : TA U (ts ++ [(x, y)]) xs lo tb w.heap.size f' (upd who y (2 ^ ixOf (addN S0.uss y) y)) L S w) (hb : Below lo w0 w) : Bld U (ts ++ [(x, y)]) xs lo tb f' (upd who y (2 ^ ixOf (addN S0.uss y) y)) L S w0 w := by
 have hmem : y ∈ addN S0.uss y := mem_addN.2 (Or.inr rfl)
 have hix : ixOf (addN S0.uss y) y < 64 := by
  have h1 := ixOf_lt hmem
  have h2 := addN_len S0.uss y
  have h3 := h.ul
  omega
 have hnd : (addN S0.uss y).Nodup := addN_nodup h.ta.t.us.nd y
 refine ⟨hta, hb, ?_, ?_, ?_, ?_, ?_, ?_⟩
 ·intro u
  rw [hus, mem_addN, h.us]
  constructor
  ·rintro (⟨h1, t, ht, e⟩ | e)
   ·exact ⟨h1, t, List.mem_append_left _ ht, e⟩
   ·rw [e]; exact ⟨hy, (x, y), by simp, rfl⟩
  ·rintro ⟨h1, t, ht, e⟩
   rcases List.mem_append.1 ht with ht | ht
   ·exact Or.inl ⟨h1, t, ht, e⟩
   ·simp at ht; rw [ht] at e; exact Or.inr e.symm
 ·rw [hus, List.length_append]; have h2 := addN_len S0.uss y; have h3 := h.ul; simp; omega
 ·rw [List.length_append]; have h3 := h.tl; simp; omega
 ·intro z hz i hi
  rw [hus]
  unfold upd
  split
  ·rename_i e
   rw [bit_only, e]
   constructor
   ·intro e2; rw [← e2]; exact ix_get hmem
   ·intro e2
    obtain ⟨hlt, e3⟩ := List.getElem?_eq_some_iff.1 e2
    have h4 := ix_get hmem
    obtain ⟨hlt2, e5⟩ := List.getElem?_eq_some_iff.1 h4
    exact (List.getElem_inj hnd).1 (e5.trans e3.symm)
  ·rename_i e
   rw [h.th z hz i hi]
   unfold addN
   split
   ·exact Iff.rfl
   ·rename_i hv
    constructor
    ·intro e2; rw [List.getElem?_append_left (List.getElem?_eq_some_iff.1 e2).1]; exact e2
    ·intro e2
     by_cases hlt : i < S0.uss.length
     ·rwa [List.getElem?_append_left hlt] at e2
     ·rw [List.getElem?_append_right (by omega)] at e2
      have : i - S0.uss.length = 0 := by
       by_cases h0 : i - S0.uss.length = 0
       ·exact h0
       ·rw [List.getElem?_eq_none (by simp; omega)] at e2; cases e2
      rw [this] at e2
      simp at e2
      exact absurd e2.symm e
 ·intro z hz
  unfold upd
  rw [if_neg (fun e => by rw [e, hy] at hz; cases hz)]; exact h.no z hz
 ·intro z
  unfold upd
  split
  ·exact Nat.pow_lt_pow_right (by decide) hix
  ·exact h.sm z
theorem Bld.node {U : List ByteArray} {ts : List (Nod × Nod)} {xs : List ByteArray} {lo tb : Nat} {f f' : Nod -> Option Value} {who : Nod -> Nat} {L0 L : TL} {S0 S : TS} {w0 wp w : World} {x y : Nod} (h : Bld U ts xs lo tb f who L0 S0 w0 wp) (hy : y.isTh = false) (htl : S.ths.length <= S0.ths.length + 2) (hus : S.uss = S0.uss)
  (hta : TA U (ts ++ [(x, y)]) xs lo tb w.heap.size f' who L S w) (hb : Below lo w0 w) : Bld U (ts ++ [(x, y)]) xs lo tb f' who L S w0 w := by
 refine ⟨hta, hb, ?_, ?_, ?_, ?_, h.no, h.sm⟩
 ·intro u
  rw [hus, h.us]
  constructor
  ·rintro ⟨h1, t, ht, e⟩
   exact ⟨h1, t, List.mem_append_left _ ht, e⟩
  ·rintro ⟨h1, t, ht, e⟩
   rcases List.mem_append.1 ht with ht | ht
   ·exact ⟨h1, t, ht, e⟩
   ·simp at ht; rw [ht] at e; rw [← e] at h1; rw [hy] at h1; cases h1
 ·rw [hus, List.length_append]; have h3 := h.ul; simp; omega
 ·rw [List.length_append]; have h3 := h.tl; simp; omega
 ·intro z hz i hi; rw [hus]; exact h.th z hz i hi
theorem and_pow (c i : Nat) : (((c &&& 2 ^ i : Nat) : Int) != 0) = c.testBit i := by
 cases h : c.testBit i with
 | false =>
  have e : c &&& 2 ^ i = 0 := by
   refine Nat.eq_of_testBit_eq fun j => ?_
   rw [Nat.testBit_and, Nat.testBit_two_pow, Nat.zero_testBit]
   by_cases hj : i = j
   ·rw [← hj, h]; rfl
   ·simp [hj]
  rw [e]; rfl
 | true =>
  have e : (c &&& 2 ^ i).testBit i = true := by rw [Nat.testBit_and, Nat.testBit_two_pow, h]; simp
  have e2 : ¬ (c &&& 2 ^ i) = 0 := fun e3 => by rw [e3, Nat.zero_testBit] at e; cases e
  have e4 : ¬ ((c &&& 2 ^ i : Nat) : Int) = 0 := by omega
  simp only [bne_iff_ne, ne_eq]
  exact e4
theorem hasBit_any (c i : Nat) (hc : c < 2 ^ 64) (hi : i < 64) (w : World) : Calls Tryz.prog 130 #[.int .u64 c, .int .i64 i] w fun e w' => e = .returned (.bool (c.testBit i)) /\ w' = w := by
 have ho := only_any i hi w
 have HB : Hid (bits .and .u64 (c : Int) ((2 ^ i : Nat) : Int) = ((c &&& 2 ^ i : Nat) : Int)) := bits_and64 hc (Nat.pow_lt_pow_right (by decide) hi)
 have HP : Hid (((((c &&& 2 ^ i : Nat) : Int)) != 0) = c.testBit i) := and_pow c i
 clear hc hi
 generalize c &&& 2 ^ i = d at *
 generalize 2 ^ i = p at *
 go_enter Tryz.func130, Tryz.ntmps130
 go_wp2_with (go_at_call 178; refine ho.mono ?_; rintro e w1 ⟨rfl, hw1⟩; subst w1)
 go_ret
 refine ⟨ret_bool ?_, rfl⟩
 rw [HB.out]
 exact HP.out
def thT (x : Nod) : ByteArray := x.k ++ ⟨#[58]⟩ ++ x.n
theorem thingText_any (x : Nod) (hx : x.k.size + 1 + x.n.size <= maxLen) (w : World) : Calls Tryz.prog 94 #[.agg #[.string x.k, .string x.n, .string x.r]] w fun e w' => e = .returned (.string (thT x)) /\ w' = w.alloc (.cells #[.string x.k, .string x.n, .string x.r] 75) := by
 obtain ⟨a, b, c⟩ := x
 unfold thT
 dsimp only [maxLen] at hx ⊢
 have k1 : ¬ 9223372036854775807 < a.size + 1 := by omega
 have k2 : ¬ 9223372036854775807 < a.size + 1 + b.size := by omega
 clear hx
 go_enter Tryz.func94, Tryz.ntmps94
 go_wp2
 go_ret
 exact ⟨rfl, rfl⟩
theorem ent_next {U : List ByteArray} {lo b : Nat} {ts : List (Nod × Nod)} {f : Nod -> Option Value} {S : TS} {w : World} {m : List (Value × Value)} (ok : S.Ok U) (e1 : EntAt w CxG b m) (hsm : SubM S m f) (hs : SubAt w lo w.heap.size S ts f) (hlo : lo <= w.heap.size) (hl : ts.length <= 1000000000000) {x y : Nod} (kx : Kn S x) (ky : Kn S y) {p q : Nat} (hpq : cxN S y = .complex .f64 p q) :
  ∃ v st w1, (Instr.mapEntry 179 (.map (some b)) (cxN S x)).run Tryz.prog (w.alloc (.cells #[.complex .f64 p q] 136)) = .ok (.tuple #[v, goInt st]) w1 /\ (∃ o n c, v = .slice o n c) /\ ∃ v' w2, (Builtin.append_ #[170, 170] 170 #[v, .slice (some ⟨w.heap.size, 0, none⟩) 1 1]).run Tryz.prog w1 = .ok v' w2 /\ (∃ o n c, v' = .slice o n c) /\ ∃ w3, (Instr.entryStore 179 (.map (some b)) (goInt st) v').run Tryz.prog w2 = .ok () w3 /\
   ∃ f' m', EntAt w3 CxG b m' /\ SubM S m' f' /\ SubAt w3 lo w3.heap.size S (ts ++ [(x, y)]) f' /\ Frm (fun k => k = b \/ ∃ z u, f z = some u /\ u.ownBlock = some k) w w3 /\ (∀ z u k, f' z = some u -> u.ownBlock = some k -> (∃ z' u', f z' = some u' /\ u'.ownBlock = some k) \/ w.heap.size + 1 <= k) := by
 obtain ⟨e2, e3, e4⟩ := hsm
 obtain ⟨wa, hwa⟩ : ∃ wa, w.alloc (.cells #[.complex .f64 p q] 136) = wa := ⟨_, rfl⟩
 have hba : Below w.heap.size w wa := by rw [← hwa]; exact (Below.refl _ _).alloc (Nat.le_refl _) _
 have hsa : wa.heap.size = w.heap.size + 1 := by rw [← hwa]; show (w.heap.push _).size = _; simp
 have hna : wa.heap[w.heap.size]? = some (.cells [Value.complex .f64 p q].toArray 136 (0, 0)) := by rw [← hwa]; exact alloc_new w [.complex .f64 p q] _
 have ea : EntAt wa CxG b m := e1.move (hba.block _ e1.lt)
 obtain ⟨st, w1, o1, r1, g1, s1, q1, hst⟩ := ent_law cx_ok Tryz.underlying179 (z := .slice none 0 0) (fun u => Tryz.zeroValue170 u) ea (ok.good kx)
 rw [e3 x kx] at r1
 obtain ⟨v, hv⟩ : ∃ v, (f x).getD (.slice none 0 0) = v := ⟨_, rfl⟩
 rw [hv] at r1
 have hlen : (subsOf ts x).length <= 1000000000000 := by
  unfold subsOf
  rw [List.length_map]
  exact Nat.le_trans (List.length_filter_le _ _) hl
 have own0 : w.ownsRow lo 136 1 v (subsOf ts x).length ((subsOf ts x).map (cxN S)) := by
  cases hf : f x with
  | none =>
   rw [hf] at hv
   rw [← hv, hs.no x hf]
   exact World.ownsRow_nil _ _ _ _
  | some u =>
   rw [hf] at hv
   rw [← hv]
   exact (hs.row x u hf).1
 have hvf : ∀ k, v.ownBlock = some k -> ∃ z u, f z = some u /\ u.ownBlock = some k := by
  intro k hk
  cases hf : f x with
  | none => rw [hf] at hv; rw [← hv] at hk; cases hk
  | some u => rw [hf] at hv; rw [← hv] at hk; exact ⟨x, u, hf, hk⟩
 have hms : ∃ es cl, w.heap[b]? = some (.map es cl) := by obtain ⟨es, cl, q, -⟩ := e1; exact ⟨es, cl, q⟩
 obtain ⟨es0, cl0, hms⟩ := hms
 have hc1 : ∀ (k : Nat) (cur : Array Value) (t : TypeId), w.heap[k]? = some (.cells cur t (0, 0)) -> w1.heap[k]? = w.heap[k]? := by
  intro k cur t hk
  rw [← hba.block k (row_lt hk)]
  refine g1.block k (by rw [hsa]; have := row_lt hk; omega) fun e => ?_
  have e5 : b = k := by first | exact Option.some.inj e | exact (Option.some.inj e).symm
  rw [← e5, hms] at hk; injection hk with hk; cases hk
 have own1 : w1.ownsRow lo 136 1 v (subsOf ts x).length ((subsOf ts x).map (cxN S)) := owns_to own0 fun g hg => by
  obtain ⟨-, -, cur, q⟩ := owns_lt own0 g hg
  exact hc1 g cur _ q
 have hn1 : w1.heap[w.heap.size]? = some (.cells [Value.complex .f64 p q].toArray 136 (0, 0)) := by
  rw [g1.block w.heap.size (by omega) (fun e => ?_)]
  ·exact hna
  ·have e5 : b = w.heap.size := by first | exact Option.some.inj e | exact (Option.some.inj e).symm
   have := e1.lt; omega
 obtain ⟨i, hi, hzz⟩ := Option.map_eq_some_iff.1 Tryz.infoCx
 simp only [Prod.mk.injEq] at hzz
 obtain ⟨i1, i2, i3⟩ := hzz
 obtain ⟨v', w2, r2, o2, g2, -, n2⟩ := run_append_own_at (P := Tryz.prog) w1 lo 170 170 136 i (.complex .f64 0 0) 1 16 Tryz.underlying170 hi i1 i2 i3 rfl (by decide) v (subsOf ts x).length ((subsOf ts x).map (cxN S)) own1 ⟨w.heap.size, 0, none⟩ 1 1 [.complex .f64 p q] rfl
  (fun j u hj => by
    have hj0 : j = 0 := by
     cases j with
     | zero => rfl
     | succ j => simp at hj
    subst hj0
    exact row_cell hn1 hj) (by intro u hu; simp at hu; rw [hu]; rfl) (by unfold maxLen; omega) (by omega) (by omega)
 have hvm : ∀ k, v.ownBlock = some k -> k ≠ b := by
  intro k hk e
  obtain ⟨-, -, cur, q⟩ := owns_lt own0 k hk
  rw [e, hms] at q; injection q with q; cases q
 have q2 : w2.heap[b]? = some o1 := by
  rw [g2.block b (by rw [s1, hsa]; have := e1.lt; omega) (fun e => hvm b e.symm rfl)]; exact q1
 obtain ⟨w3, m', r3, t1, t2, t3, t4, g3, s3⟩ := hst w2 v' q2
 have hz2 : w1.heap.size <= w2.heap.size := g2.size
 have kC2 : ∀ (k : Nat) (cur : Array Value) (t : TypeId), w.heap[k]? = some (.cells cur t (0, 0)) -> v.ownBlock ≠ some k -> w3.heap[k]? = w.heap[k]? := by
  intro k cur t hk hne
  have h1 := hc1 k cur t hk
  have hk1 : k < w1.heap.size := row_lt (h1.trans hk)
  have h2 : w2.heap[k]? = w1.heap[k]? := g2.block k hk1 (fun e => hne e.symm)
  rw [g3.block k (by omega) (fun e => ?_), h2, h1]
  have e5 : b = k := by first | exact Option.some.inj e | exact (Option.some.inj e).symm
  rw [← e5, hms] at hk; injection hk with hk; cases hk
 have hv'm : ∀ g, v'.ownBlock = some g -> g ≠ b := by
  intro g hg e
  rcases n2 with n2 | n2
  ·exact hvm g (n2 ▸ hg) e
  ·rw [n2] at hg
   have := Option.some.inj hg
   have := e1.lt; omega
 have own3 : w3.ownsRow lo 136 1 v' ((subsOf ts x).length + 1) ((subsOf ts x).map (cxN S) ++ [.complex .f64 p q]) := owns_to o2 fun g hg => by
  obtain ⟨h1, -, cur, q⟩ := owns_lt o2 g hg
  exact g3.block g h1 fun e => hv'm g hg (by first | exact Option.some.inj e | exact (Option.some.inj e).symm)
 have hsub : ∀ z, subsOf (ts ++ [(x, y)]) z = subsOf ts z ++ (if x = z then [y] else []) := by
  intro z
  by_cases e : x = z
  ·simp [subsOf, List.filter_append, e]
  ·simp [subsOf, List.filter_append, e]
 refine ⟨v, st, w1, by rw [hwa]; exact r1, ?_, v', w2, r2, ?_, w3, r3, fun z => if z = x then some v' else f z, m', t1, ⟨?_, ?_, ?_⟩, ⟨?_, ?_, ?_, ?_⟩, ?_, ?_⟩
 ·obtain ⟨o, c, e⟩ := owns_form own0; exact ⟨o, _, c, e⟩
 ·obtain ⟨o, c, e⟩ := owns_form own3; exact ⟨o, _, c, e⟩
 ·intro r hr
  rcases t4 r hr with e | e
  ·exact ⟨x, kx, e⟩
  ·obtain ⟨r', hr', e'⟩ := List.mem_map.1 e
   obtain ⟨z, kz, ez⟩ := e2 r' hr'
   exact ⟨z, kz, by rw [← e']; exact ez⟩
 ·intro z kz
  show _ = if z = x then some v' else f z
  split
  ·rename_i e; rw [e]; exact t2
  ·rename_i e
   rw [t3 _ (fun e' => e (ok.inj kz kx e'))]; exact e3 z kz
 ·intro z kz
  show (if z = x then some v' else f z) = none
  rw [if_neg (fun e => kz (by rw [e]; exact kx))]; exact e4 z kz
 ·intro z u hz
  have hz : (if z = x then some v' else f z) = some u := hz
  split at hz
  ·rename_i e
   injection hz with hz
   subst hz
   rw [e, hsub x, if_pos rfl, List.length_append, List.map_append, List.map_cons, List.map_nil, hpq]
   exact ⟨own3, fun k hk => (owns_lt own3 k hk).1⟩
  ·rename_i e
   obtain ⟨h1, h2⟩ := hs.row z u hz
   rw [hsub z, if_neg (fun e' => e e'.symm), List.append_nil]
   refine ⟨owns_to h1 fun g hg => ?_, fun k hk => by have := h2 k hk; omega⟩
   obtain ⟨-, -, cur, q⟩ := owns_lt h1 g hg
   refine kC2 g cur _ q fun e' => ?_
   cases hf : f x with
   | none => rw [hf] at hv; rw [← hv] at e'; cases e'
   | some v0 =>
    rw [hf] at hv
    rw [← hv] at e'
    exact e (hs.apart z x u v0 g hz hf hg e')
 ·intro z hz
  have hz : (if z = x then some v' else f z) = none := hz
  split at hz
  ·cases hz
  ·rename_i e
   rw [hsub z, if_neg (fun e' => e e'.symm), List.append_nil]
   exact hs.no z hz
 ·intro t ht'
  rcases List.mem_append.1 ht' with h1 | h1
  ·exact hs.kn t h1
  ·simp at h1; rw [h1]; exact ⟨kx, ky⟩
 ·have key : ∀ z u k, ¬ z = x -> f z = some u -> v'.ownBlock = some k -> u.ownBlock = some k -> False := by
   intro z u k e hz h1 h2
   have hlt := (hs.row z u hz).2 k h2
   rcases n2 with n2 | n2
   ·rw [n2] at h1
    cases hf : f x with
    | none => rw [hf] at hv; rw [← hv] at h1; cases h1
    | some v0 =>
     rw [hf] at hv
     rw [← hv] at h1
     exact e (hs.apart z x u v0 k hz hf h2 h1)
   ·rw [n2] at h1
    have := Option.some.inj h1
    omega
  intro z1 z2 u1 u2 k h1 h2 k1 k2
  have h1 : (if z1 = x then some v' else f z1) = some u1 := h1
  have h2 : (if z2 = x then some v' else f z2) = some u2 := h2
  split at h1
  ·rename_i e1'
   split at h2
   ·rename_i e2'; rw [e1', e2']
   ·rename_i e2'
    rw [← Option.some.inj h1] at k1
    exact (key z2 u2 k e2' h2 k1 k2).elim
  ·rename_i e1'
   split at h2
   ·rename_i e2'
    rw [← Option.some.inj h2] at k2
    exact (key z1 u1 k e1' h1 k2 k1).elim
   ·exact hs.apart z1 z2 u1 u2 k h1 h2 k1 k2
 ·refine ⟨?_, ?_, ?_, by omega, fun k hk hx => ?_⟩
  ·rw [g3.os, g2.os, g1.os, hba.os]
  ·rw [g3.tape, g2.tape, g1.tape, hba.tape]
  ·rw [g3.output, g2.output, g1.output, hba.output]
  ·have e0 : some k ≠ some b := fun e' => hx (Or.inl (Option.some.inj e'))
   rw [g3.block k (by omega) e0, g2.block k (by omega) (fun e => ?_), g1.block k (by omega) e0, hba.block k hk]
   exact hx (Or.inr (hvf k e.symm))
 ·intro z u k hz hk
  have hz : (if z = x then some v' else f z) = some u := hz
  split at hz
  ·rw [← Option.some.inj hz] at hk
   rcases n2 with n2 | n2
   ·exact Or.inl (hvf k (n2 ▸ hk))
   ·rw [n2] at hk
    have := Option.some.inj hk
    right; omega
  ·exact Or.inl ⟨z, u, hz, hk⟩
structure WA (U : List ByteArray) (ts : List (Nod × Nod)) (xs : List ByteArray) (lo tb sb : Nat) (f : Nod -> Option Value) (who : Nod -> Nat) (wb nb mb : Nat) (L : TL) (S : TS) (sv : Value) (met : List Nod) (gone : Nat) (w : World) : Prop where
 ta : TA U ts xs lo tb sb f who L S w
 m : MetAt L sb S w lo nb mb sv met
 blk : w.heap[wb]? = some (.cells [Value.pointer (some ⟨tb, 0, none⟩), .pointer (some ⟨nb, 0, none⟩), .int .i64 gone].toArray 139 (0, 0))
 nodes : ∀ y ∈ met, y.isTh = false
 gl : gone <= met.length
def walkX (wb nb mb : Nat) (L : TL) (sv : Value) (k : Nat) : Prop := relX L k \/ numX nb mb sv k \/ k = wb
structure WStep (U : List ByteArray) (ts : List (Nod × Nod)) (xs : List ByteArray) (lo tb sb : Nat) (f : Nod -> Option Value) (who : Nod -> Nat) (wb nb mb : Nat) (L : TL) (S : TS) (sv : Value) (w : World) (L' : TL) (S' : TS) (sv' : Value) (met' : List Nod) (gone' : Nat) (w' : World) : Prop where
 at' : WA U ts xs lo tb sb f who wb nb mb L' S' sv' met' gone' w'
 fr : Frm (walkX wb nb mb L sv) w w'
 ownR : ∀ k, L'.sr.ownBlock = some k -> L.sr.ownBlock = some k \/ w.heap.size <= k
 ownM : ∀ k, sv'.ownBlock = some k -> sv.ownBlock = some k \/ w.heap.size <= k
 loc : L' = { L with sr := L'.sr }
 ths : S'.ths = S.ths
 uss : S'.uss = S.uss
 pre : S.rels <+: S'.rels
theorem WStep.trans {U : List ByteArray} {ts : List (Nod × Nod)} {xs : List ByteArray} {lo tb sb : Nat} {f : Nod -> Option Value} {who : Nod -> Nat} {wb nb mb : Nat} {L L' L'' : TL} {S S' S'' : TS} {sv sv' sv'' : Value} {w w' w'' : World} {met' met'' : List Nod} {gone' gone'' : Nat} (h : WStep U ts xs lo tb sb f who wb nb mb L S sv w L' S' sv' met' gone' w') (k : WStep U ts xs lo tb sb f who wb nb mb L' S' sv' w' L'' S'' sv'' met'' gone'' w'') : WStep U ts xs lo tb sb f who wb nb mb L S sv w L'' S'' sv'' met'' gone'' w'' := by
 refine ⟨k.at', h.fr.trans k.fr ?_, ?_, ?_, by rw [k.loc, h.loc], k.ths.trans h.ths, k.uss.trans h.uss, h.pre.trans k.pre⟩
 ·intro j hj hx
  rcases hx with (e | e | e) | (e | e | e) | e
  ·rw [h.loc] at e; exact Or.inl (Or.inl e)
  ·rw [h.loc] at e; exact Or.inl (Or.inr (Or.inl e))
  ·rcases h.ownR j e with e | e
   ·exact Or.inl (Or.inr (Or.inr e))
   ·omega
  ·exact Or.inr (Or.inl (Or.inl e))
  ·exact Or.inr (Or.inl (Or.inr (Or.inl e)))
  ·rcases h.ownM j e with e | e
   ·exact Or.inr (Or.inl (Or.inr (Or.inr e)))
   ·omega
  ·exact Or.inr (Or.inr e)
 ·intro j hj
  rcases k.ownR j hj with e | e
  ·exact h.ownR j e
  ·exact Or.inr (Nat.le_trans h.fr.size e)
 ·intro j hj
  rcases k.ownM j hj with e | e
  ·exact h.ownM j e
  ·exact Or.inr (Nat.le_trans h.fr.size e)
theorem WA.below {U : List ByteArray} {ts : List (Nod × Nod)} {xs : List ByteArray} {lo tb sb : Nat} {f : Nod -> Option Value} {who : Nod -> Nat} {wb nb mb : Nat} {L : TL} {S : TS} {sv : Value} {met : List Nod} {gone : Nat} {w w' : World} (h : WA U ts xs lo tb sb f who wb nb mb L S sv met gone w) (hb : Below w.heap.size w w') : WA U ts xs lo tb sb f who wb nb mb L S sv met gone w' :=
 ⟨h.ta.below hb, h.m.below hb, (hb.block _ (row_lt h.blk)).trans h.blk, h.nodes, h.gl⟩
theorem WStep.below {U : List ByteArray} {ts : List (Nod × Nod)} {xs : List ByteArray} {lo tb sb : Nat} {f : Nod -> Option Value} {who : Nod -> Nat} {wb nb mb : Nat} {L : TL} {S : TS} {sv : Value} {met : List Nod} {gone : Nat} {w w' : World} (h : WA U ts xs lo tb sb f who wb nb mb L S sv met gone w) (hb : Below w.heap.size w w') : WStep U ts xs lo tb sb f who wb nb mb L S sv w L S sv met gone w' :=
 ⟨h.below hb, Frm.of_below hb, fun _ e => Or.inl e, fun _ e => Or.inl e, rfl, rfl, rfl, List.prefix_refl _⟩
theorem WA.walk_not {U : List ByteArray} {ts : List (Nod × Nod)} {xs : List ByteArray} {lo tb sb : Nat} {f : Nod -> Option Value} {who : Nod -> Nat} {wb nb mb : Nat} {L : TL} {S : TS} {sv : Value} {met : List Nod} {gone : Nat} {w : World} (h : WA U ts xs lo tb sb f who wb nb mb L S sv met gone w) : ¬ relX L wb /\ ¬ numX nb mb sv wb := by
 refine ⟨fun e => ?_, fun e => ?_⟩
 ·rcases h.ta.t.rl.kind e h.blk with e | e <;> revert e <;> decide
 ·rcases h.m.num.kind e h.blk with e | e <;> revert e <;> decide
theorem met_len {U : List ByteArray} {S : TS} (ok : S.Ok U) {met : List Nod} (hn : met.Nodup) (hk : ∀ y ∈ met, Kn S y) : met.length <= 32000000 := by
 have h1 : met.length <= (S.ths.flatMap fun t => U.map fun r => t.to r).length := by
  refine nodup_sub_len _ _ hn fun y hy => ?_
  have k := hk y hy
  refine List.mem_flatMap.2 ⟨y.th, k.1, List.mem_map.2 ⟨y.r, ok.rU _ k.2, ?_⟩⟩
  obtain ⟨a, b, c⟩ := y
  rfl
 have h2 : ∀ l : List Nod, (l.flatMap fun t => U.map fun r => t.to r).length = l.length * U.length := by
  intro l
  induction l with
  | nil => simp
  | cons a l ih => rw [List.flatMap_cons, List.length_append, ih, List.length_map, List.length_cons, Nat.add_mul]; omega
 rw [h2] at h1
 have : S.ths.length * U.length <= 4000 * 8000 := Nat.mul_le_mul ok.tl ok.ul
 omega
theorem nat_beq (a b : Nat) : ((a : Int) == (b : Int)) = decide (a = b) := by
 by_cases e : a = b
 ·rw [e]; simp
 ·have e2 : ¬ (a : Int) = (b : Int) := by omega
  simp [e, e2]
theorem walkEnded_any {U : List ByteArray} {ts : List (Nod × Nod)} {xs : List ByteArray} {lo tb sb : Nat} {f : Nod -> Option Value} {who : Nod -> Nat} {wb nb mb : Nat} {L : TL} {S : TS} {sv : Value} {met : List Nod} {gone : Nat} {w : World} (h : WA U ts xs lo tb sb f who wb nb mb L S sv met gone w) :
  Calls Tryz.prog 139 #[.pointer (some ⟨wb, 0, none⟩)] w fun e w' => e = .returned (.bool (decide (gone = met.length))) /\ Below w.heap.size w w' := by
 have c1 := row_cell h.blk (j := 1) rfl
 have c2 := row_cell h.blk (j := 2) rfl
 have n1 := row_cell h.m.num.blk (j := 1) rfl
 obtain ⟨x, c, hsv⟩ := owns_form h.m.num.row
 rw [hsv] at n1
 have hl := met_len h.ta.t.ok h.m.num.nd h.m.kn
 have hg := h.gl
 generalize met.length = n at *
 clear h hsv
 go_enter Tryz.func139, Tryz.ntmps139
 go_wp2
 go_region
 all_goals go_wp2
 all_goals go_ret
 all_goals refine ⟨ret_bool ?_, by repeat (first | exact Below.refl _ _ | refine Below.setCell ?_ (by first | exact Nat.le_refl _ | (simp; done) | (simp; omega)) _ | refine below_drewN ?_ _ | refine Below.drew ?_ | refine Below.alloc ?_ (by first | exact Nat.le_refl _ | (simp; done) | (simp; omega)) _)⟩
 all_goals exact nat_beq _ _
structure NmrInv (U : List ByteArray) (ts : List (Nod × Nod)) (xs : List ByteArray) (lo tb sb : Nat) (f : Nod -> Option Value) (who : Nod -> Nat) (L : TL) (S : TS) (w : World) (prs : List (Nod × Nod)) (g : Nod -> Option Value) (L3 : TL) (S3 : TS) (wr : World) : Prop where
 ta : TA U ts xs lo tb sb f who L3 S3 wr
 st : RStep U lo tb f who L S w L3 S3 wr
 e : ∃ m, EntAt wr CxG w.heap.size m /\ SubM S3 m g
 sa : SubAt wr w.heap.size wr.heap.size S3 prs g
theorem TA.maps_lt {U : List ByteArray} {ts : List (Nod × Nod)} {xs : List ByteArray} {lo tb sb : Nat} {f : Nod -> Option Value} {who : Nod -> Nat} {L : TL} {S : TS} {w : World} (h : TA U ts xs lo tb sb f who L S w) {k : Nat} (hk : k ∈ [L.mb, L.mt, L.mr, L.mu, L.ms, L.mw]) : k < w.heap.size := by
 obtain ⟨m, lor, hm, -⟩ := h.r
 obtain ⟨ms, hs1, -⟩ := h.t.sub
 obtain ⟨mw, hw1, -⟩ := h.t.wh
 simp only [List.mem_cons, List.not_mem_nil, or_false] at hk
 rcases hk with rfl | rfl | rfl | rfl | rfl | rfl
 ·exact hm.lt
 ·exact h.t.th.map.lt
 ·exact h.t.rl.map.lt
 ·exact h.t.us.map.lt
 ·exact hs1.lt
 ·exact hw1.lt
theorem NmrInv.rstep {U : List ByteArray} {ts : List (Nod × Nod)} {xs : List ByteArray} {lo tb sb : Nat} {f : Nod -> Option Value} {who : Nod -> Nat} {L : TL} {S : TS} {w : World} {prs : List (Nod × Nod)} {g : Nod -> Option Value} {L3 L4 : TL} {S3 S4 : TS} {wr w2 : World} (h0 : TA U ts xs lo tb sb f who L S w) (h : NmrInv U ts xs lo tb sb f who L S w prs g L3 S3 wr) (r : RStep U lo tb f who L3 S3 wr L4 S4 w2) : NmrInv U ts xs lo tb sb f who L S w prs g L4 S4 w2 := by
 obtain ⟨m, e1, e2⟩ := h.e
 have e3 := h.sa
 refine ⟨h.ta.rstep r, h.st.trans r, ⟨m, e1.move (r.fr.block _ e1.lt fun hx => ?_), e2.le r.le r.at'.ok⟩, ((e3.keep r.fr fun k _ hx cur hc => ?_).le r.le).size r.fr.size⟩
 ·have := h.ta.t.rl.kindM hx e1.map
  have hm := h0.maps_lt (k := L.mr) (by simp)
  rw [h.st.loc] at this
  have e : w.heap.size = L.mr := this
  omega
 ·rcases h.ta.t.rl.kind hx hc with e | e <;> revert e <;> decide
theorem NmrInv.put {U : List ByteArray} {ts : List (Nod × Nod)} {xs : List ByteArray} {lo tb sb : Nat} {f : Nod -> Option Value} {who : Nod -> Nat} {L : TL} {S : TS} {w : World} {prs : List (Nod × Nod)} {g : Nod -> Option Value} {L3 : TL} {S3 : TS} {wr : World} (h0 : TA U ts xs lo tb sb f who L S w) (h : NmrInv U ts xs lo tb sb f who L S w prs g L3 S3 wr) (hl : prs.length <= 1000000000000) {x y : Nod} (kx : Kn S3 x) (ky : Kn S3 y) {p q : Nat} (hpq : cxN S3 y = .complex .f64 p q) :
  ∃ v st w1, (Instr.mapEntry 179 (.map (some w.heap.size)) (cxN S3 x)).run Tryz.prog (wr.alloc (.cells #[.complex .f64 p q] 136)) = .ok (.tuple #[v, .int .i64 st]) w1 /\ (∃ o n c, v = .slice o n c) /\ ∃ v' w2, (Builtin.append_ #[170, 170] 170 #[v, .slice (some ⟨wr.heap.size, 0, none⟩) 1 1]).run Tryz.prog w1 = .ok v' w2 /\ (∃ o n c, v' = .slice o n c) /\ ∃ w3, (Instr.entryStore 179 (.map (some w.heap.size)) (.int .i64 st) v').run Tryz.prog w2 = .ok () w3 /\
   ∃ g', NmrInv U ts xs lo tb sb f who L S w (prs ++ [(x, y)]) g' L3 S3 w3 /\ Frm (fun k => k = w.heap.size \/ ∃ z u, g z = some u /\ u.ownBlock = some k) wr w3 /\ (∀ z u k, g' z = some u -> u.ownBlock = some k -> (∃ z' u', g z' = some u' /\ u'.ownBlock = some k) \/ wr.heap.size + 1 <= k) := by
 obtain ⟨m, e1, e2⟩ := h.e
 have hlo : w.heap.size <= wr.heap.size := h.st.fr.size
 obtain ⟨v, st, w1, r1, hv, v', w2, r2, hv', w3, r3, g', m', t1, t2, t3, fr, own⟩ := ent_next h.ta.t.ok e1 e2 h.sa hlo hl kx ky hpq
 have hnt : ∀ k, k < wr.heap.size -> (k = w.heap.size \/ ∃ z u, g z = some u /\ u.ownBlock = some k) -> NotTie L3 sb wr k := by
  intro k _ hk
  rcases hk with rfl | ⟨z, u, hz, hu⟩
  ·obtain ⟨es, cl, q, -⟩ := e1
   refine Or.inr (Or.inr ⟨es, cl, q, fun hm => ?_⟩)
   rw [h.st.loc] at hm
   have := h0.maps_lt hm
   omega
  ·obtain ⟨-, h2, h3⟩ := owns_lt (h.sa.row z u hz).1 k hu
   exact Or.inl ⟨Nat.le_trans h0.sb h2, h3⟩
 have hta := h.ta.keep fr hnt
 refine ⟨v, st, w1, r1, hv, v', w2, r2, hv', w3, r3, g', ⟨hta, h.st.after hta.t fr fun k hk e => ?_, ⟨m', t1, t2⟩, t3⟩, fr, own⟩
 rcases e with rfl | ⟨z, u, hz, hu⟩
 ·omega
 ·have := (owns_lt (h.sa.row z u hz).1 k hu).2.1; omega
def prK (ts : List (Nod × Nod)) (xs : List ByteArray) (l : List Nod) (k : Nat) : List (Nod × Nod) := (l.take k).flatMap fun y => (namesN ts (ruleN xs) y).map fun z => (z, y)
theorem prK_next {ts : List (Nod × Nod)} {xs : List ByteArray} {l : List Nod} {k : Nat} {y : Nod} (h : l[k]? = some y) : prK ts xs l (k + 1) = prK ts xs l k ++ (namesN ts (ruleN xs) y).map fun z => (z, y) := by
 unfold prK
 rw [takeL_snoc h, List.flatMap_append]; simp
theorem prK_len {ts : List (Nod × Nod)} {xs : List ByteArray} {l : List Nod} (hn : ∀ y, (namesN ts (ruleN xs) y).length <= 10251) : ∀ k, (prK ts xs l k).length <= k * 10251 := by
 intro k
 induction k with
 | zero => simp [prK]
 | succ k ih =>
  by_cases h : k < l.length
  ·obtain ⟨y, hy⟩ : ∃ y, l[k]? = some y := ⟨_, List.getElem?_eq_getElem h⟩
   rw [prK_next hy, List.length_append, List.length_map]
   have := hn y; omega
  ·have : prK ts xs l (k + 1) = prK ts xs l k := by
    unfold prK
    rw [List.take_of_length_le (by omega), List.take_of_length_le (by omega)]
   rw [this]; exact Nat.le_trans ih (Nat.mul_le_mul_right _ (Nat.le_succ k))
theorem names_len {ts : List (Nod × Nod)} {U xs : List ByteArray} (cov : Cov U xs) (ht : ts.length <= 50) (y : Nod) : (namesN ts (ruleN xs) y).length <= 10251 := by
 have h0 := List.length_filter_le (fun z : Nod => !z.isTh) (namedW ts y (ruleN xs y))
 have h1 := namedW_len ts y (ruleN xs y)
 have : lvW (ruleN xs y) * (ts.length + 1) <= 201 * 51 := Nat.mul_le_mul (cov.lv y) (by omega)
 unfold namesN
 omega
theorem namers_any (HW : Hid TWayC) {U : List ByteArray} {ts : List (Nod × Nod)} {xs : List ByteArray} (cov : Cov U xs) {lo tb sb : Nat} {f : Nod -> Option Value} {who : Nod -> Nat} {L : TL} {S : TS} {w : World} (h : TA U ts xs lo tb sb f who L S w) {rv : Value} {l : List Nod} (hrow : CxRow w rv (l.map (cxN S))) (hk : ∀ y ∈ l, Kn S y) (hl : l.length <= 32000000) (hcx : ∀ g n c, rv = .slice (some ⟨g, 0, none⟩) n c -> ∃ cur, w.heap[g]? = some (.cells cur 136 (0, 0))) :
  Calls Tryz.prog 175 #[.pointer (some ⟨tb, 0, none⟩), rv] w fun e w' => e = .returned (.map (some w.heap.size)) /\ ∃ g L' S', NmrInv U ts xs lo tb sb f who L S w (prK ts xs l l.length) g L' S' w' := by
 have hmm := fun w1 => run_makeMap (P := Tryz.prog) 179 w1
 obtain ⟨o, c, rfl, hcell⟩ := hrow
 rw [List.length_map]
 have HH : Hid (TA U ts xs lo tb sb f who L S w) := h
 have HCE : Hid (∀ (j : Nat) (y : Nod), l[j]? = some y -> ∃ g, o = some ⟨g, 0, none⟩ /\ g < w.heap.size /\ w.cell? ⟨g, j, none⟩ = some (cxN S y) /\ ∃ cur, w.heap[g]? = some (.cells cur 136 (0, 0))) := by
  intro j y hj
  obtain ⟨g, e1, e2⟩ := hcell j (cxN S y) (by rw [List.getElem?_map, hj]; rfl)
  exact ⟨g, e1, cell_lt e2, e2, hcx g _ c (by rw [e1])⟩
 have HKN : Hid (∀ y ∈ l, Kn S y) := hk
 have HST : Hid (NmrInv U ts xs lo tb sb f who L S w (prK ts xs l 0) (fun _ => none) L S (w.alloc (.map #[] 0))) := by
  have hb : Below w.heap.size w (w.alloc (.map #[] 0)) := by repeat (first | exact Below.refl _ _ | refine Below.setCell ?_ (by first | exact Nat.le_refl _ | (simp; done) | (simp; omega)) _ | refine below_drewN ?_ _ | refine Below.drew ?_ | refine Below.alloc ?_ (by first | exact Nat.le_refl _ | (simp; done) | (simp; omega)) _)
  have e : prK ts xs l 0 = [] := by simp [prK]
  rw [e]
  exact ⟨h.below hb, RStep.below h.t hb, ⟨[], EntAt.new w CxG, fun p hp => (by simp at hp), fun x _ => rfl, fun x _ => rfl⟩, ⟨(fun x v hv => by cases hv), (fun x _ => rfl), (fun t ht => by simp at ht), (fun x y v u k hv => by cases hv)⟩⟩
 have HNL : Hid (∀ y, (namesN ts (ruleN xs) y).length <= 10251) := fun y => names_len cov h.tn y
 have HNC : Hid (∀ (L3 : TL) (S3 : TS) (w1 : World) (y : Nod), TA U ts xs lo tb sb f who L3 S3 w1 -> Kn S3 y -> Calls Tryz.prog 182 #[.pointer (some ⟨tb, 0, none⟩), cxN S3 y] w1 (NamesP U lo tb f who L3 S3 w1 (namesN ts (ruleN xs) y))) := fun L3 S3 w1 y h1 k1 => names_any HW cov h1 k1
 obtain ⟨nn, hnn⟩ : ∃ nn, l.length = nn := ⟨_, rfl⟩
 have HNN : Hid (l.length = nn) := hnn
 rw [hnn] at hl ⊢
 clear h hcell hk hnn hcx cov
 go_enter Tryz.func175, Tryz.ntmps175
 go_wp2
 go_loopw [13] (fun i wr => ∃ (k : Nat) (g : Nod -> Option Value) (L3 : TL) (S3 : TS), k <= nn /\ i = .int .i64 k /\ NmrInv U ts xs lo tb sb f who L S w (prK ts xs l k) g L3 S3 wr) (fun i _ => nn - (intOf i).toNat)
 case atStart => exact ⟨0, _, L, S, Nat.zero_le _, rfl, HST.out⟩
 case round =>
  obtain ⟨k, g, L3, S3, hk, rfl, hI⟩ := hrel
  have HI : Hid (NmrInv U ts xs lo tb sb f who L S w (prK ts xs l k) g L3 S3 wr) := hI
  clear hI HST hmm
  by_cases hlt : k < nn
  ·have hkl : k < l.length := by have := HNN.out; omega
   obtain ⟨y, hy⟩ : ∃ y, l[k]? = some y := ⟨_, List.getElem?_eq_getElem hkl⟩
   obtain ⟨gb, hog, hgl, hgc, cur, hgt⟩ := HCE.out k y hy
   subst hog
   have kyS := HKN.out y (List.mem_of_getElem? hy)
   have ky3 : Kn S3 y := kyS.le HI.out.st.le
   have hcell : wr.cell? ⟨gb, k, none⟩ = some (cxN S y) := by
    rw [← hgc]
    exact World.cell?_of_block (HI.out.st.kind HH.out.t hgt (by decide) (by decide))
   obtain ⟨p, q, hpq⟩ : ∃ p q, cxN S y = .complex .f64 p q := ⟨_, _, rfl⟩
   have HPQ : Hid (cxN S3 y = .complex .f64 p q /\ cxN S y = .complex .f64 p q) := ⟨(cxN_le HI.out.st.le kyS).trans hpq, hpq⟩
   have HY : Hid (l[k]? = some y /\ Kn S y) := ⟨hy, kyS⟩
   obtain ⟨ll, hll⟩ : ∃ ll, namesN ts (ruleN xs) y = ll := ⟨_, rfl⟩
   have HLL : Hid (namesN ts (ruleN xs) y = ll) := hll
   have hln : ll.length <= 10251 := by rw [← hll]; exact HNL.out y
   have HNM : Hid (Calls Tryz.prog 182 #[.pointer (some ⟨tb, 0, none⟩), .complex .f64 p q] wr fun e w2 => ∃ L4 S4 v vc gd, e = .returned (.slice v ll.length vc) /\ NmrInv U ts xs lo tb sb f who L S w (prK ts xs l k) g L4 S4 w2 /\ S3.le S4 /\ (∀ z ∈ ll, Kn S4 z) /\ (∀ j z, ll[j]? = some z -> v = some ⟨gd, 0, none⟩ /\ w2.cell? ⟨gd, j, none⟩ = some (cxN S4 z) /\ w.heap.size < gd /\ gd < w2.heap.size /\ ∀ z u, g z = some u -> u.ownBlock ≠ some gd)) := by
    have := HNC.out L3 S3 wr y HI.out.ta ky3
    rw [HPQ.out.1, hll] at this
    refine this.mono ?_
    rintro e w2 ⟨L4, S4, v, he, ho, hkn, r⟩
    obtain ⟨vo, vc, rfl⟩ := owns_form ho
    have hcr := owns_cxrow (us := ll.map (cxN S4)) (by rw [List.length_map]; exact ho)
    refine ⟨L4, S4, vo, vc, (Value.slice vo ll.length vc).ownBlock.getD 0, he, HI.out.rstep HH.out r, r.le, hkn, fun j z hj => ?_⟩
    obtain ⟨o', c', he', hc'⟩ := hcr
    obtain ⟨gd, e1, e2⟩ := hc' j (cxN S4 z) (by rw [List.getElem?_map, hj]; rfl)
    have evo : vo = some ⟨gd, 0, none⟩ := by injection he' with he'; rw [he']; exact e1
    subst evo
    have hgd : (Value.slice (some ⟨gd, 0, none⟩) ll.length vc).ownBlock = some gd := rfl
    obtain ⟨h1, h2, -⟩ := owns_lt ho gd hgd
    have hws : w.heap.size + 1 <= wr.heap.size := by
     obtain ⟨m, e1, -⟩ := HI.out.e
     exact e1.lt
    refine ⟨rfl, e2, by show w.heap.size < gd; omega, h1, fun z u hz hu => ?_⟩
    have := (HI.out.sa.row z u hz).2 gd hu
    omega
   rw [hpq] at hcell
   clear hy hgl hgc hgt kyS ky3 hpq hll hkl
   go_wp2_with (go_at_call 182; refine HNM.out.mono ?_; rintro e w2 ⟨L4, S4, v, vc, gd, rfl, hI2, hle, hkn, hrw⟩; have HI2 : Hid (NmrInv U ts xs lo tb sb f who L S w (prK ts xs l k) g L4 S4 w2) := hI2; have HKN4 : Hid (∀ z ∈ ll, Kn S4 z) := hkn; have HRW : Hid (∀ j z, ll[j]? = some z -> v = some ⟨gd, 0, none⟩ /\ w2.cell? ⟨gd, j, none⟩ = some (cxN S4 z) /\ w.heap.size < gd /\ gd < w2.heap.size /\ ∀ z u, g z = some u -> u.ownBlock ≠ some gd) := hrw; have HLE : Hid (S3.le S4) := hle; clear hI2 hkn hrw hle)
   obtain ⟨mm, hmm⟩ : ∃ mm, ll.length = mm := ⟨_, rfl⟩
   have HMM : Hid (ll.length = mm) := hmm
   rw [hmm] at hln ⊢
   clear hmm
   have HPL : Hid ((prK ts xs l k).length <= 328032000000) := by
    have h1 := prK_len (ts := ts) (xs := xs) (l := l) HNL.out k
    have h2 : k * 10251 <= 32000000 * 10251 := Nat.mul_le_mul_right _ (by omega)
    show _ <= _
    omega
   have HK4 : Hid (Kn S4 y /\ cxN S4 y = .complex .f64 p q) := by
    have h1 := HI2.out.st.le
    exact ⟨HY.out.2.le h1, (cxN_le h1 HY.out.2).trans HPQ.out.2⟩
   go_loopw [21] (fun i wi => ∃ (j : Nat) (gj : Nod -> Option Value), j <= mm /\ i = .int .i64 j /\ NmrInv U ts xs lo tb sb f who L S w (prK ts xs l k ++ (ll.take j).map fun z => (z, y)) gj L4 S4 wi /\ (∀ (j' : Nat) (z : Nod), ll[j']? = some z -> wi.cell? ⟨gd, j', none⟩ = some (cxN S4 z)) /\ (∀ (j' : Nat) (z : Nod), ll[j']? = some z -> gd < wi.heap.size /\ w.heap.size < gd /\ ∀ (z : Nod) (u : Value), gj z = some u -> u.ownBlock ≠ some gd)) (fun i _ => mm - (intOf i).toNat)
   case atStart =>
    refine ⟨0, g, Nat.zero_le _, rfl, ?_, fun j z hj => (HRW.out j z hj).2.1, fun j z hj => ⟨(HRW.out j z hj).2.2.2.1, (HRW.out j z hj).2.2.1, (HRW.out j z hj).2.2.2.2⟩⟩
    have e : (ll.take 0).map (fun z => (z, y)) = [] := by simp
    rw [e, List.append_nil]
    exact HI2.out
   case round =>
    obtain ⟨j, gj, hj, rfl, hIj, hcj, hgj⟩ := hrel
    have HIJ : Hid (NmrInv U ts xs lo tb sb f who L S w (prK ts xs l k ++ (ll.take j).map fun z => (z, y)) gj L4 S4 wr) := hIj
    have HCJ : Hid (∀ (j' : Nat) (z : Nod), ll[j']? = some z -> wr.cell? ⟨gd, j', none⟩ = some (cxN S4 z)) := hcj
    have HGJ : Hid (∀ (j' : Nat) (z : Nod), ll[j']? = some z -> gd < wr.heap.size /\ w.heap.size < gd /\ ∀ (z : Nod) (u : Value), gj z = some u -> u.ownBlock ≠ some gd) := hgj
    clear hIj hcj hgj
    by_cases hjt : j < mm
    ·have hjl : j < ll.length := by have := HMM.out; omega
     obtain ⟨z, hz⟩ : ∃ z, ll[j]? = some z := ⟨_, List.getElem?_eq_getElem hjl⟩
     have hvv := (HRW.out j z hz).1
     subst hvv
     have hcz := HCJ.out j z hz
     have hgz := HGJ.out j z hz
     obtain ⟨v0, st, w1, r1, ⟨a0, a1, a2, rfl⟩, v1, w3, r3, ⟨d0, d1, d2, rfl⟩, w4, r4, g4, hI4, fr4, own4⟩ := HIJ.out.put HH.out (by rw [List.length_append, List.length_map, List.length_take]; have := HPL.out; omega) (HKN4.out z (List.mem_of_getElem? hz)) HK4.out.1 HK4.out.2
     have HI4 : Hid (NmrInv U ts xs lo tb sb f who L S w (prK ts xs l k ++ (ll.take (j + 1)).map fun z => (z, y)) g4 L4 S4 w4) := by
      rw [takeL_snoc hz, List.map_append, ← List.append_assoc]; exact hI4
     have HC4 : Hid (∀ (j' : Nat) (z : Nod), ll[j']? = some z -> w4.cell? ⟨gd, j', none⟩ = some (cxN S4 z)) := fun j' z' h' => by
      rw [← HCJ.out j' z' h']
      refine World.cell?_of_block (fr4.block gd hgz.1 fun e => ?_)
      rcases e with e | ⟨z2, u2, e1, e2⟩
      ·have := hgz.2.1; omega
      ·exact hgz.2.2 z2 u2 e1 e2
     have HG4 : Hid (∀ (j' : Nat) (z : Nod), ll[j']? = some z -> gd < w4.heap.size /\ w.heap.size < gd /\ ∀ (z : Nod) (u : Value), g4 z = some u -> u.ownBlock ≠ some gd) := fun j' z' h' => ⟨Nat.lt_of_lt_of_le hgz.1 fr4.size, hgz.2.1, fun z2 u2 e1 e2 => by
      rcases own4 z2 u2 gd e1 e2 with ⟨z3, u3, e3, e4⟩ | e
      ·exact hgz.2.2 z3 u3 e3 e4
      ·have := hgz.1; omega⟩
     clear hI4 fr4 own4 hz hgz hjl
     generalize cxN S4 z = cz at *
     go_wp2_with (at_builtin; refine wpList_app_run rfl (.tmp 27) (.tmp 29) 170 rfl _ _ _ rfl rfl r3 ?_)
     go_roundw
     case rel => exact ⟨j + 1, g4, by omega, by go_num, HI4.out, HC4.out, HG4.out⟩
     case measure => simp [intOf]; omega
    ·obtain rfl : j = mm := by omega
     have HIF : Hid (NmrInv U ts xs lo tb sb f who L S w (prK ts xs l (k + 1)) gj L4 S4 wr) := by
      have h1 := HIJ.out
      rw [List.take_of_length_le (by have := HMM.out; omega)] at h1
      show NmrInv _ _ _ _ _ _ _ _ _ _ _ _ _ _ _ _
      rw [prK_next HY.out.1, HLL.out]
      exact h1
     go_wp2
     go_roundw
     case rel => exact ⟨k + 1, gj, L4, S4, by omega, by go_num, HIF.out⟩
     case measure => simp [intOf]; omega
  ·obtain rfl : k = nn := by omega
   go_wp2
   go_ret
   exact ⟨rfl, g, L3, S3, HI.out⟩
end Go.Proofs.YtalmoiogbdahcaaGreat
