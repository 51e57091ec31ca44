import Derived.Test.YtalmoiogbdahcaaGreatTSetA
import Derived.Test.YtalmoiogbdahcaaGreatTGhE
import Derived.Test.YtalmoiogbdahcaaGreatTGhG
import Derived.Test.YtalmoiogbdahcaaGreatYTieP
import Derived.Test.YtalmoiogbdahcaaGreatYWrdC
import Derived.Test.YtalmoiogbdahcaaGreatYBackA
import Derived.Test.YtalmoiogbdahcaaGreatYWhoB
import Derived.Test.YtalmoiogbdahcaaGreatYGhA
import Derived.Test.YtalmoiogbdahcaaGreatYWrdL
import Derived.Test.YtalmoiogbdahcaaGreatYRefG
import Derived.Test.YtalmoiogbdahcaaGreatYGramC
import Derived.Test.YtalmoiogbdahcaaGreatYRefE
import Derived.Test.YtalmoiogbdahcaaGreatYTieC0
import Derived.Test.YtalmoiogbdahcaaGreatYGramE
import Derived.Test.YtalmoiogbdahcaaGreatYSrtB
namespace Go.Proofs.YtalmoiogbdahcaaGreat
set_option maxRecDepth 100000
set_option maxHeartbeats 8000000
open Go.RowKit Go.Shelf
structure GateQ (U xs now : List ByteArray) (b : Nat) (g : Pg) (w : World) : Prop where
 pg : PgAt w b g
 lk : g.lk = 0
 rl : RulesN w g.mb xs
 tv : StrT w g.tv now
 tups : TupsOk U now
 uok : UOk U
 cov : Cov U xs
 sz : ∀ t ∈ tsOf now, t.2.isTh = true -> t.2.k.size + 1 + t.2.n.size <= maxLen
 inj : ∀ t ∈ tsOf now, ∀ t' ∈ tsOf now, t.2.isTh = true -> t'.2.isTh = true -> thT t.2 = thT t'.2 -> t.2 = t'.2
theorem GateQ.to {U xs now : List ByteArray} {b : Nat} {g : Pg} {w w' : World} (h : GateQ U xs now b g w) (hk : ∀ k, k < w.heap.size -> w'.heap[k]? = w.heap[k]?) : GateQ U xs now b g w' := by
 refine ⟨(hk b (row_lt h.pg)).trans h.pg, h.lk, ?_, ?_, h.tups, h.uok, h.cov, h.sz, h.inj⟩
 ·exact h.rl.move (fun Gd m hm => hk _ hm.lt) fun g cur hg => hk g (row_lt hg)
 ·rcases h.tv with e | ⟨b, cap, cur, hv, hh, ht⟩
  ·exact Or.inl e
  ·exact Or.inr ⟨b, cap, cur, hv, (hk b (row_lt hh)).trans hh, ht⟩
theorem now_any (HN : Hid NodeC) {U xs now : List ByteArray} {b : Nat} {g : Pg} {w : World} (h : GateQ U xs now b g w) :
  Calls Tryz.prog 42 #[.pointer (some ⟨b, 0, none⟩)] w fun e w' => ∃ tb f who L S lo w1, e = .returned (.pointer (some ⟨tb, 0, none⟩)) /\ w.heap.size <= lo /\ Below w.heap.size w w' /\ Bld U (tsOf now) xs lo tb f who L S w1 w' := by
 have h2 := row_cell h.pg (j := 2) rfl
 have hlt : b < w.heap.size := row_lt h.pg
 have HS : Hid (∀ w0, Below w.heap.size w w0 -> Calls Tryz.prog 50 #[.pointer (some ⟨b, 0, none⟩)] w0 fun e w1 => e = .returned g.tv /\ w1.cell? ⟨b, 2, none⟩ = some (.map (some g.mb)) /\ Hid (∀ w1', Below w1.heap.size w1 w1' -> Calls Tryz.prog 84 #[.map (some g.mb), g.tv] w1' fun e w' => ∃ tb f who L S lo w1, e = .returned (.pointer (some ⟨tb, 0, none⟩)) /\ w.heap.size <= lo /\ Below w.heap.size w w' /\ Bld U (tsOf now) xs lo tb f who L S w1 w')) := by
  intro w0 hb0
  have h0 := h.to hb0.block
  refine (snapshot_any b g w0 h0.pg h.lk).mono ?_
  rintro e w1 ⟨he, hp1, hg1⟩
  have hk1 : ∀ k, k < w0.heap.size -> w1.heap[k]? = w0.heap[k]? := by
   intro k hk
   by_cases e : k = b
   ·rw [e, hp1, h0.pg]
   ·exact hg1.block k hk (fun e2 => e (Option.some.inj e2.symm).symm)
  have hb1 : Below w.heap.size w w1 := hb0.trans ⟨hg1.os, hg1.tape, hg1.output, hg1.size, fun k hk => hk1 k (Nat.lt_of_lt_of_le hk hb0.size)⟩
  refine ⟨he, row_cell hp1 (j := 2) rfl, ?_⟩
  intro w1' hb1'
  have h1 := (h0.to hk1).to hb1'.block
  refine (of_any HN h.uok h1.rl h1.tv.strs h.tups).mono ?_
  rintro e w' ⟨tb, f, who, L, S, he, hB⟩
  have hbb := hb1.trans (hb1'.mono hb1.size)
  exact ⟨tb, f, who, L, S, _, w1', he, hbb.size, hbb.trans (hB.b.mono hbb.size), hB⟩
 have htv : ∃ o n c, g.tv = .slice o n c := by
  rcases h.tv with ⟨e, -⟩ | ⟨b, cap, cur, e, -⟩
  ·exact ⟨_, _, _, e⟩
  ·exact ⟨_, _, _, e⟩
 obtain ⟨o, n, c, htv⟩ := htv
 rw [htv] at HS
 generalize g.mb = mb at *
 clear h htv HN
 go_enter Tryz.func42, Tryz.ntmps42
 go_wp2
 go_region_with (first | (go_at_call 50; refine (HS.out _ (by repeat (first | exact Below.refl _ _ | refine Below.setCell ?_ (by first | exact Nat.le_refl _ | (simp; done) | (simp; omega)) _ | refine below_drewN ?_ _ | refine Below.drew ?_ | refine Below.alloc ?_ (by first | exact Nat.le_refl _ | (simp; done) | (simp; omega)) _))).mono ?_; rintro e w1 ⟨rfl, k2, HO⟩) | (go_at_call 84; refine (HO.out _ (by repeat (first | exact Below.refl _ _ | refine Below.setCell ?_ (by first | exact Nat.le_refl _ | (simp; done) | (simp; omega)) _ | refine below_drewN ?_ _ | refine Below.drew ?_ | refine Below.alloc ?_ (by first | exact Nat.le_refl _ | (simp; done) | (simp; omega)) _))).mono ?_; rintro e w2 ⟨tb, f, who, L, S, lo, w3, rfl, hp⟩; have HP : Hid (w.heap.size <= lo /\ Below w.heap.size w w2 /\ Bld U (tsOf now) xs lo tb f who L S w3 w2) := hp; clear hp))
 all_goals go_wp2
 all_goals go_ret
 all_goals exact ⟨tb, f, who, L, S, lo, w3, rfl, HP.out⟩
def InN (ts : List (Nod × Nod)) (xs : List ByteArray) (u x : Nod) : Prop := u.isTh = true /\ (∃ t ∈ ts, t.2 = u) /\ Std ts (ruleN xs) u x
structure AskW (U xs now : List ByteArray) (x : Nod) (w : World) (wb : Nat) (w2 : World) : Prop where
 has : ∀ w2', Below w2.heap.size w2 w2' -> ∀ y : Nod, y.k.size + 1 + y.n.size <= maxLen -> Calls Tryz.prog 48 #[.pointer (some ⟨wb, 0, none⟩), .agg #[.string y.k, .string y.n, .string y.r]] w2' fun e w' => ∃ b, e = .returned (.bool b) /\ (b = true ↔ ∃ u, InN (tsOf now) xs u x /\ thT u = thT y) /\ Below w.heap.size w w'
 who : ∀ w2', Below w2.heap.size w2 w2' -> Calls Tryz.prog 83 #[.pointer (some ⟨wb, 0, none⟩)] w2' fun e w' => ∃ zs o c, e = .returned (.slice o zs.length c) /\ Sorted zs /\ (∀ s, s ∈ zs ↔ ∃ u, InN (tsOf now) xs u x /\ thT u = s) /\ zs.length <= 50 /\ w'.ownsRow w.heap.size 9 1 (.slice o zs.length c) zs.length (strV zs) /\ Below w.heap.size w w'
 cost : ∀ w2', Below w2.heap.size w2 w2' -> Calls Tryz.prog 44 #[.pointer (some ⟨wb, 0, none⟩)] w2' fun e w' => ∃ met : List Nod, e = .returned (.int .i64 (met.length : Nat)) /\ met.Nodup /\ (∀ y, y ∈ met ↔ Rch (tsOf now) (ruleN xs) x y) /\ met.length <= 32000000 /\ Below w.heap.size w w'
theorem frm_below {X : Nat -> Prop} {B : Nat} {w w1 w2 : World} (hb : Below B w w1) (hf : Frm X w1 w2) (hB : B <= w1.heap.size) (hX : ∀ k, X k -> B <= k) : Below B w w2 :=
 hb.trans ⟨hf.os, hf.tape, hf.output, hf.size, fun k hk => hf.block k (Nat.lt_of_lt_of_le hk hB) (fun e => by have := hX k e; omega)⟩
theorem WA.low {U : List ByteArray} {ts : List (Nod × Nod)} {xs : List ByteArray} {lo tb sb : Nat} {f : Nod -> Option Value} {who : Nod -> Nat} {wb nb mb : Nat} {L : TL} {S : TS} {sv : Value} {met : List Nod} {gone : Nat} {w : World} (h : WA U ts xs lo tb sb f who wb nb mb L S sv met gone w) (hw : lo <= wb) {k : Nat} (hk : whoX wb nb mb L sv k) : lo <= k := by
 rcases hk with (e | e | e) | e
 ·exact (h.ta.t.rl.lt e).2
 ·exact (h.m.num.lt e).2
 ·rw [e]; exact hw
 ·rw [e]; exact h.ta.t.low
theorem askW_of (HW : Hid TWayC) {U xs now : List ByteArray} {b : Nat} {g : Pg} {w : World} (h : GateQ U xs now b g w) {lo tb : Nat} {f : Nod -> Option Value} {who : Nod -> Nat} {L : TL} {S : TS} {w1 w1' w2 : World} (hB : Bld U (tsOf now) xs lo tb f who L S w1 w1') (hlo : w.heap.size <= lo) {w1'' : World} (hb : Below w.heap.size w w1'') {x : Nod} {wb nb mb sb : Nat} {L' : TL} {S' : TS} {sv : Value} (hN : WNew U (tsOf now) xs lo tb f who L S w1'' x wb nb mb sb L' S' sv w2) :
  AskW U xs now x w wb w2 /\ Below w.heap.size w w2 := by
 have hb2 : Below w.heap.size w w2 := hb.trans (hN.bel.mono hlo)
 have hu : S'.uss = S.uss := hN.uss
 have hul : S'.uss.length <= 50 := by rw [hu]; exact Nat.le_trans hB.ul hB.ta.tn
 have hmem : ∀ u, u ∈ S'.uss ↔ u.isTh = true /\ ∃ t ∈ tsOf now, t.2 = u := by rw [hu]; exact hB.us
 have hth : ∀ y : Nod, y.isTh = true -> ∀ i, i < 64 -> ((who y).testBit i = true ↔ S'.uss[i]? = some y) := by rw [hu]; exact hB.th
 have hsz : ∀ u ∈ S'.uss, u.k.size + 1 + u.n.size <= maxLen := by
  intro u hu
  obtain ⟨h1, t, ht, e⟩ := (hmem u).1 hu
  subst e
  exact h.sz t ht h1
 have hinj : ∀ (i j : Nat) (u v : Nod), S'.uss[i]? = some u -> S'.uss[j]? = some v -> thT u = thT v -> i = j := by
  intro i j u v hi hj e
  obtain ⟨h1, t, ht, e1⟩ := (hmem u).1 (List.mem_of_getElem? hi)
  obtain ⟨h2, t', ht', e2⟩ := (hmem v).1 (List.mem_of_getElem? hj)
  subst e1 e2
  have := h.inj t ht t' ht' h1 h2 e
  have nd : S'.uss.Nodup := hN.wa.ta.t.us.nd
  rw [this] at hi
  exact (List.getElem?_inj (List.getElem?_eq_some_iff.1 hi).1 nd).1 (hi.trans hj.symm)
 have hg : Gone (tsOf now) xs x [x] 0 := ⟨rfl, fun y hy => by rw [List.mem_singleton] at hy; rw [hy]; exact Rch.here, fun i y hi => by omega⟩
 have hst : ∀ s, (∃ u ∈ S'.uss, Std (tsOf now) (ruleN xs) u x /\ thT u = s) ↔ ∃ u, InN (tsOf now) xs u x /\ thT u = s := by
  intro s
  constructor
  ·rintro ⟨u, h1, h2, h3⟩
   exact ⟨u, ⟨((hmem u).1 h1).1, ((hmem u).1 h1).2, h2⟩, h3⟩
  ·rintro ⟨u, ⟨h1, h2, h4⟩, h3⟩
   exact ⟨u, (hmem u).2 ⟨h1, h2⟩, h4, h3⟩
 have hz2 : w.heap.size <= w2.heap.size := hb2.size
 have hcov := h.cov
 refine ⟨⟨fun w2' hb' y hy => ?_, fun w2' hb' => ?_, fun w2' hb' => ?_⟩, hb2⟩
 ·have hA := hN.wa.below hb'
  refine (has_walk HW h.cov hA hg hB.sm hth hB.no hul hsz hinj y hy).mono ?_
  rintro e w' ⟨b, he, hiff, hf⟩
  exact ⟨b, he, hiff.trans (hst _), frm_below (hb2.trans (hb'.mono hz2)) hf (Nat.le_trans hz2 hb'.size) fun k hk => Nat.le_trans hlo (hA.low hN.low hk)⟩
 ·have hA := hN.wa.below hb'
  refine (who_any HW h.cov hA hg hB.sm hth hB.no hul hsz hinj).mono ?_
  rintro e w' ⟨zs, v, he, hso, hm, hzl, hrow, hf⟩
  obtain ⟨o, c, rfl⟩ := owns_form hrow
  exact ⟨zs, o, c, he, hso, fun s => (hm s).trans (hst s), hzl, owns_base hrow (Nat.le_trans hz2 hb'.size), frm_below (hb2.trans (hb'.mono hz2)) hf (Nat.le_trans hz2 hb'.size) fun k hk => Nat.le_trans hlo (hA.low hN.low hk)⟩
 ·have hA := hN.wa.below hb'
  refine (walkCost_any (fun h x hx => walkStep_go HW hcov h hx) hA hg).mono ?_
  rintro e w' ⟨L2, S2, sv2, met, he, hs, hgo⟩
  exact ⟨met, he, hs.at'.m.num.nd, hgo.all, met_len hs.at'.ta.t.ok hs.at'.m.num.nd hs.at'.m.kn, frm_below (hb2.trans (hb'.mono hz2)) hs.fr (Nat.le_trans hz2 hb'.size) fun k hk => Nat.le_trans hlo (hA.low hN.low (Or.inl hk))⟩
theorem ask_chain (HN : Hid NodeC) (HW : Hid TWayC) {U xs now : List ByteArray} {b : Nat} {g : Pg} {w : World} (h : GateQ U xs now b g w) {x : Nod} (hx : okNd x) (hth : x.isTh = false) (hr : x.r ∈ U) :
  Calls Tryz.prog 42 #[.pointer (some ⟨b, 0, none⟩)] w fun e w1 => ∃ tb, e = .returned (.pointer (some ⟨tb, 0, none⟩)) /\ Below w.heap.size w w1 /\ Hid (∀ w1', Below w1.heap.size w1 w1' -> Calls Tryz.prog 43 #[.pointer (some ⟨tb, 0, none⟩), .agg #[.string x.k, .string x.n, .string x.r]] w1' fun e w2 => ∃ wb, e = .returned (.pointer (some ⟨wb, 0, none⟩)) /\ Below w.heap.size w w2 /\ Hid (AskW U xs now x w wb w2)) := by
 refine (now_any HN h).mono ?_
 rintro e w1 ⟨tb, f, who, L, S, lo, w0, he, hlo, hb, hB⟩
 refine ⟨tb, he, hb, ?_⟩
 intro w1' hb1
 have hT : TA U (tsOf now) xs lo tb w1'.heap.size f who L S w1' := (hB.ta.below hb1).wide (hB.ta.below hb1).sb (Nat.le_refl _)
 refine (walkNew_any HN hT hx hth hr (by have := hB.tl; have := hB.ta.tn; omega)).mono ?_
 rintro e w2 ⟨wb, nb, mb, sb, L', S', sv, he2, hN⟩
 obtain ⟨h1, h2⟩ := askW_of HW h hB hlo (hb.trans (hb1.mono hb.size)) hN
 exact ⟨wb, he2, h2, h1⟩
def hasR (xs : List ByteArray) (x : Nod) : Bool := (xs.find? (fun s => decide (headKind (rd0 s) = x.k /\ headRel (rd0 s) = x.r))).isSome
theorem hasR_found {w : World} {mb : Nat} {xs : List ByteArray} (h : RulesN w mb xs) (x : Nod) : ∃ m, MapAt w HeadG mb m /\ AllWays m /\ (getM m (headV x.k x.r)).isSome = hasR xs x := by
 obtain ⟨m, lor, h1, h2⟩ := h
 refine ⟨m, h1, h2.ways, ?_⟩
 obtain ⟨es, cl, q1, q2, q3, q4⟩ := h1
 unfold hasR
 cases hf : xs.find? (fun s => decide (headKind (rd0 s) = x.k /\ headRel (rd0 s) = x.r)) with
 | none =>
  have hn : getM m (headV x.k x.r) = none := by
   refine getM_none fun p hp e => ?_
   obtain ⟨i, hi⟩ := List.mem_iff_getElem?.1 hp
   have hil := (List.getElem?_eq_some_iff.1 hi).1
   rw [h2.len] at hil
   have hk := h2.key i _ _ (List.getElem?_eq_getElem hil) hi
   rw [hk] at e
   obtain ⟨e1, e2⟩ := headV_inj e
   have := List.find?_eq_none.1 hf xs[i] (List.getElem_mem hil)
   simp [e1, e2] at this
  rw [hn]; rfl
 | some s =>
  obtain ⟨i, hi, hp⟩ := find_idx hf
  have hil := (List.getElem?_eq_some_iff.1 hi).1
  rw [← h2.len] at hil
  have hmi : m[i]? = some m[i] := List.getElem?_eq_getElem hil
  have hk := h2.key i s _ hi hmi
  simp at hp
  rw [hp.1, hp.2] at hk
  have hg : getM m (headV x.k x.r) = some m[i].2 := getM_of q4 (by rw [← hk]; exact List.getElem_mem hil)
  rw [hg]; rfl
def queL (x y : Nod) : List Value := [.string x.k, .string x.n, .string x.r, .string y.k, .string y.n, .string y.r]
theorem ask_q (HN : Hid NodeC) (HW : Hid TWayC) {U xs now : List ByteArray} {b : Nat} {g : Pg} {w : World} (h : GateQ U xs now b g w) {x y : Nod} (hx : okNd x) (hth : x.isTh = false) (hr : x.r ∈ U) {qb : Nat} (hq : w.heap[qb]? = some (.cells (queL x y).toArray 77 (0, 0))) :
  Calls Tryz.prog 42 #[.pointer (some ⟨b, 0, none⟩)] w fun e w1 => ∃ tb, e = .returned (.pointer (some ⟨tb, 0, none⟩)) /\ w1.heap[qb]? = some (.cells (queL x y).toArray 77 (0, 0)) /\ Hid (∀ w1', Below w1.heap.size w1 w1' -> Calls Tryz.prog 43 #[.pointer (some ⟨tb, 0, none⟩), .agg #[.string x.k, .string x.n, .string x.r]] w1' fun e w2 => ∃ wb, e = .returned (.pointer (some ⟨wb, 0, none⟩)) /\ w2.heap[qb]? = some (.cells (queL x y).toArray 77 (0, 0)) /\ Hid (AskW U xs now x w wb w2)) := by
 refine (ask_chain HN HW h hx hth hr).mono ?_
 rintro e w1 ⟨tb, he, hb, HC⟩
 refine ⟨tb, he, (hb.block _ (row_lt hq)).trans hq, ?_⟩
 intro w1' hb1
 refine (HC.out w1' hb1).mono ?_
 rintro e w2 ⟨wb, he2, hb2, hA⟩
 exact ⟨wb, he2, (hb2.block _ (row_lt hq)).trans hq, hA⟩
def chkB (b1 b2 b3 : ByteArray) : Bool := !((b1.toList == []) && (b2.toList == []) && (b3.toList == []))
def queX (s : ByteArray) : Nod := ndOf (tupNode s)
def queY (s : ByteArray) : Nod := ndOf (queSubj s)
def queC (s : ByteArray) : Bool := chkB (queY s).k (queY s).n (queY s).r
theorem queVal_no {s : ByteArray} (h : queOk s = false) : queVal s = .agg #[.string noneB, .string noneB, .string noneB, .string noneB, .string noneB, .string noneB] := if_neg (fun e => by cases h.symm.trans e)
theorem queVal_yes {s : ByteArray} (h : queOk s = true) : queVal s = .agg #[.string (queX s).k, .string (queX s).n, .string (queX s).r, .string (queY s).k, .string (queY s).n, .string (queY s).r] := by
 unfold queVal queX queY ndOf
 dsimp only
 exact if_pos h
structure QueOk (U : List ByteArray) (s : ByteArray) : Prop where
 ok : okNd (queX s)
 th : (queX s).isTh = false
 rU : (queX s).r ∈ U
 sz : (queY s).k.size + 1 + (queY s).n.size <= maxLen
theorem hasR_any {U xs now : List ByteArray} {b : Nat} {g : Pg} {w : World} (h : GateQ U xs now b g w) {x : Nod} (hx : okNd x) : Calls Tryz.prog 47 #[.pointer (some ⟨b, 0, none⟩), .agg #[.string x.k, .string x.n, .string x.r]] w fun e w' => e = .returned (.bool (hasR xs x)) /\ Below w.heap.size w w' := by
 obtain ⟨m, h1, h2, h3⟩ := hasR_found h.rl x
 have := hasRule_any b g m h2 x.k x.n x.r hx.1 hx.2.2 w h.pg h1
 rw [h3] at this
 exact this
def askE (xs : List ByteArray) (s : ByteArray) : Int := if queOk s = false then 4 else if hasR xs (queX s) = false then 5 else 0
def zeroQ : Value := .agg #[.string noneB, .string noneB, .string noneB, .string noneB, .string noneB, .string noneB]
def askV (xs : List ByteArray) (s : ByteArray) : Value := if askE xs s = 0 then .agg #[.string (queX s).k, .string (queX s).n, .string (queX s).r, .string (queY s).k, .string (queY s).n, .string (queY s).r] else zeroQ
theorem sizeL_four (c : UInt8) (r : List UInt8) : sizeL (c :: r) <= 4 := by
 rw [sizeL_cons]
 by_cases h1 : (c.toNat : Int) < 128
 ·rw [if_pos h1]; omega
 rw [if_neg h1]
 have ht : ∀ n a l, n <= 3 -> tailL n a l r <= 4 := by
  intro n a l hn
  by_cases h : tailL n a l r = 0
  ·omega
  ·obtain ⟨-, -, -, q⟩ := tail_ne h
   omega
 by_cases h2 : 194 <= (c.toNat : Int) /\ (c.toNat : Int) < 224
 ·rw [if_pos h2]; exact ht _ _ _ (by omega)
 rw [if_neg h2]
 by_cases h3 : 224 <= (c.toNat : Int) /\ (c.toNat : Int) < 240
 ·rw [if_pos h3]; exact ht _ _ _ (by omega)
 rw [if_neg h3]
 by_cases h4 : 240 <= (c.toNat : Int) /\ (c.toNat : Int) < 245
 ·rw [if_pos h4]; exact ht _ _ _ (by omega)
 rw [if_neg h4]; omega
theorem nameR_len : ∀ (r : Nat) (l : List UInt8), nameR r l = true -> l.length <= 4 * r := by
 intro r
 induction r with
 | zero => intro l h; simp [nameR] at h
 | succ r ih =>
  intro l h
  cases l with
  | nil => simp
  | cons c l =>
   rw [nameR] at h
   split at h
   ·cases h
   ·split at h
    ·cases h
    ·have h1 := ih _ h
     rw [List.length_drop] at h1
     have := sizeL_four c l
     omega
theorem nameL_len {l : List UInt8} (h : nameL l = true) : l.length <= 36 := nameR_len 9 l h
theorem nameL_pos {l : List UInt8} (h : nameL l = true) : mk l ≠ noneB := fun e => nameL_ne h (by
 have := congrArg (fun b : ByteArray => b.data.toList) e
 exact this)
theorem thT_list (k n r : List UInt8) : (thT ⟨mk k, mk n, mk r⟩).data.toList = k ++ 58 :: n := by
 unfold thT
 simp [mk]
theorem thT_inj {k n k' n' : List UInt8} (hk : nameL k = true) (hk' : nameL k' = true) (h : k ++ 58 :: n = k' ++ 58 :: n') : k = k' /\ n = n' := by
 have h1 := idx_at k n 58 (noMark_ne (nameL_noMark hk) m58)
 have h2 := idx_at k' n' 58 (noMark_ne (nameL_noMark hk') m58)
 rw [h, h2] at h1
 have hl : k.length = k'.length := (Option.some.inj h1).symm
 have h3 := List.append_inj h hl
 exact ⟨h3.1, (List.cons.inj h3.2).2⟩
def relU (xs now : List ByteArray) (s : ByteArray) : List ByteArray := noneB :: (queX s).r :: ((tsOf now).map (fun t => t.1.r) ++ ((tsOf now).map (fun t => t.2.r) ++ xs.flatMap fun y => relsW (ruleW y).1))
theorem tup_ok {s : ByteArray} (h : tupOk s = true) : ∃ k n r k2 n2, ∃ o : Option (List UInt8), nameL k = true /\ nameL n = true /\ nameL r = true /\ nameL k2 = true /\ nameL n2 = true /\ (∀ x, o = some x -> nameL x = true) /\ tpOf s = (⟨mk k, mk n, mk r⟩, ⟨mk k2, mk n2, orel o⟩) /\ s.size <= 250 := by
 obtain ⟨k, n, r, k2, n2, o, d⟩ := parts_of s h
 obtain ⟨-, h1, h2⟩ := tup_of s k n r k2 n2 o d
 refine ⟨k, n, r, k2, n2, o, d.hk, d.hn, d.hr, d.hk2, d.hn2, d.ho, ?_, ?_⟩
 ·unfold tpOf ndOf; rw [h1, h2]
 ·have e : s.size = s.data.toList.length := by rw [Array.length_toList]; rfl
  rw [e, d.text]
  have a1 := nameL_len d.hk
  have a2 := nameL_len d.hn
  have a3 := nameL_len d.hr
  have a4 := nameL_len d.hk2
  have a5 := nameL_len d.hn2
  have a6 : (otail o).length <= 37 := by
   cases o with
   | none => simp [otail]
   | some x => have := nameL_len (d.ho x rfl); simp [otail]; omega
  simp only [List.length_append, List.length_cons]
  omega
theorem big_max : (1000 : Nat) <= maxLen := by decide
theorem orel_size {o : Option (List UInt8)} (h : ∀ x, o = some x -> nameL x = true) : (orel o).size <= 36 := by
 cases o with
 | none => show (0 : Nat) <= 36; omega
 | some x => show (mk x).size <= 36; rw [mk_size]; exact nameL_len (h x rfl)
theorem rule_cov {xs : List ByteArray} (hx : ∀ y ∈ xs, y.size <= 200) (x : Nod) : (∀ r ∈ relsW (ruleN xs x), r ∈ xs.flatMap fun y => relsW (ruleW y).1) /\ lvW (ruleN xs x) <= 201 := by
 unfold ruleN
 cases hf : xs.find? (fun s => decide (headKind (rd0 s) = x.k /\ headRel (rd0 s) = x.r)) with
 | none =>
  refine ⟨fun r hr => ?_, ?_⟩
  ·simp [relsW, isLeaf, relsL] at hr
  ·simp [lvW, isLeaf, lvL]
 | some y =>
  have hm := List.mem_of_find?_eq_some hf
  exact ⟨fun r hr => List.mem_flatMap.2 ⟨y, hm, hr⟩, rule_lv y (hx y hm)⟩
theorem flat_len (xs : List ByteArray) (hx : ∀ y ∈ xs, y.size <= 200) : (xs.flatMap fun y => relsW (ruleW y).1).length <= xs.length * 402 := by
 induction xs with
 | nil => simp
 | cons y l ih =>
  rw [List.flatMap_cons, List.length_append, List.length_cons]
  have h1 := ih fun z hz => hx z (by simp [hz])
  have h2 := relsW_len (ruleW y).1
  have h3 := rule_lv y (hx y (by simp))
  omega
theorem gateQ_of {xs now : List ByteArray} {b : Nat} {g : Pg} {w : World} (pg : PgAt w b g) (lk : g.lk = 0) (rl : RulesN w g.mb xs) (tv : StrT w g.tv now) (nl : now.length <= 50) (few : xs.length <= 12) (hx : ∀ y ∈ xs, y.size <= 200) (ht : ∀ t ∈ now, tupOk t = true) (s : ByteArray) (hs : (queX s).r.size <= maxLen) : GateQ (relU xs now s) xs now b g w := by
 have hbig := big_max
 have hts : ∀ t ∈ tsOf now, ∃ z ∈ now, tpOf z = t := fun t h => List.mem_map.1 h
 refine ⟨pg, lk, rl, tv, ⟨nl, ?_, ?_⟩, ⟨by simp [relU], ?_, ?_⟩, ⟨?_, fun x => (rule_cov hx x).2⟩, ?_, ?_⟩
 ·intro z hz
  obtain ⟨k, n, r, k2, n2, o, -, -, -, -, -, -, -, h9⟩ := tup_ok (ht z hz)
  exact ⟨ht z hz, by omega⟩
 ·intro z hz
  obtain ⟨k, n, r, k2, n2, o, h1, h2, h3, h4, h5, h6, h7, -⟩ := tup_ok (ht z hz)
  have hm : tpOf z ∈ tsOf now := List.mem_map.2 ⟨z, hz, rfl⟩
  have a1 := nameL_len h1
  have a2 := nameL_len h2
  have a3 := nameL_len h3
  have a4 := nameL_len h4
  have a5 := nameL_len h5
  have a6 := orel_size h6
  refine ⟨?_, ?_, ?_, ?_⟩
  ·rw [h7]; exact ⟨by show (mk k).size <= _; rw [mk_size]; omega, by show (mk n).size <= _; rw [mk_size]; omega, by show (mk r).size <= _; rw [mk_size]; omega⟩
  ·rw [h7]; exact ⟨by show (mk k2).size <= _; rw [mk_size]; omega, by show (mk n2).size <= _; rw [mk_size]; omega, by show (orel o).size <= _; omega⟩
  ·unfold relU
   exact List.mem_cons_of_mem _ (List.mem_cons_of_mem _ (List.mem_append_left _ (List.mem_map.2 ⟨_, hm, rfl⟩)))
  ·unfold relU
   exact List.mem_cons_of_mem _ (List.mem_cons_of_mem _ (List.mem_append_right _ (List.mem_append_left _ (List.mem_map.2 ⟨_, hm, rfl⟩))))
 ·unfold relU tsOf
  have := flat_len xs hx
  simp only [List.length_cons, List.length_append, List.length_map]
  omega
 ·intro r hr
  unfold relU at hr
  rcases List.mem_cons.1 hr with e | hr
  ·rw [e]; show (0 : Nat) <= _; omega
  rcases List.mem_cons.1 hr with e | hr
  ·rw [e]; exact hs
  rcases List.mem_append.1 hr with hr | hr
  ·obtain ⟨t, h1, rfl⟩ := List.mem_map.1 hr
   obtain ⟨z, hz, rfl⟩ := hts t h1
   obtain ⟨k, n, r, k2, n2, o, h1, h2, h3, h4, h5, h6, h7, -⟩ := tup_ok (ht z hz)
   have a3 := nameL_len h3
   rw [h7]; show (mk r).size <= _; rw [mk_size]; omega
  rcases List.mem_append.1 hr with hr | hr
  ·obtain ⟨t, h1, rfl⟩ := List.mem_map.1 hr
   obtain ⟨z, hz, rfl⟩ := hts t h1
   obtain ⟨k, n, r, k2, n2, o, h1, h2, h3, h4, h5, h6, h7, -⟩ := tup_ok (ht z hz)
   have a3 := orel_size h6
   rw [h7]; show (orel o).size <= _; omega
  ·obtain ⟨y, hy, hr⟩ := List.mem_flatMap.1 hr
   have := rule_rels y (hx y hy) r hr
   omega
 ·intro x r hr
  unfold relU
  exact List.mem_cons_of_mem _ (List.mem_cons_of_mem _ (List.mem_append_right _ (List.mem_append_right _ ((rule_cov hx x).1 r hr))))
 ·intro t h _
  obtain ⟨z, hz, rfl⟩ := hts t h
  obtain ⟨k, n, r, k2, n2, o, h1, h2, h3, h4, h5, h6, h7, -⟩ := tup_ok (ht z hz)
  have a4 := nameL_len h4
  have a5 := nameL_len h5
  rw [h7]; show (mk k2).size + 1 + (mk n2).size <= _; rw [mk_size, mk_size]; omega
 ·intro t h t' h' hth hth' e
  obtain ⟨z, hz, rfl⟩ := hts t h
  obtain ⟨z', hz', rfl⟩ := hts t' h'
  obtain ⟨k, n, r, k2, n2, o, h1, h2, h3, h4, h5, h6, h7, -⟩ := tup_ok (ht z hz)
  obtain ⟨k', n', r', k2', n2', o', h1', h2', h3', h4', h5', h6', h7', -⟩ := tup_ok (ht z' hz')
  rw [h7] at hth e ⊢
  rw [h7'] at hth' e ⊢
  have e1 : orel o = noneB := by simpa [Nod.isTh] using hth
  have e2 : orel o' = noneB := by simpa [Nod.isTh] using hth'
  have e3 := congrArg (fun b : ByteArray => b.data.toList) e
  have f : ∀ (a c : List UInt8) (q : ByteArray), (thT ⟨mk a, mk c, q⟩).data.toList = a ++ 58 :: c := fun a c q => thT_list a c []
  simp only [f] at e3
  obtain ⟨g1, g2⟩ := thT_inj h4 h4' e3
  show (⟨mk k2, mk n2, orel o⟩ : Nod) = ⟨mk k2', mk n2', orel o'⟩
  rw [g1, g2, e1, e2]
theorem ended_not {q : Rd} (h : q.ended = true) : q.failed = false := by
 cases e : q.failed
 ·rfl
 ·rw [ended_f q e] at h; cases h
theorem ended_nil {b : List UInt8} (hb : (Rd.mk (mk b) 0 false).ended = true) : b = [] := by
 unfold Rd.ended at hb
 simp only [Bool.not_false, Bool.and_true, decide_eq_true_eq] at hb
 exact List.eq_nil_of_length_eq_zero (by simpa [mk, ByteArray.size] using hb)
theorem queQ_f {s : ByteArray} (h : (rd0 s).node.failed = true) : (queQ s).failed = true := by
 cases e : queHas s
 ·rw [← queQ_no e]; exact sees_f _ _ h
 ·rw [queQ_yes e]; exact thing_f _ (sees_f _ _ h)
theorem que_parts (s : ByteArray) (h : queOk s = true) : ∃ k n r, nameL k = true /\ nameL n = true /\ nameL r = true /\ (s.data.toList = k ++ 58 :: (n ++ 35 :: r) \/ ∃ k2 n2, nameL k2 = true /\ nameL n2 = true /\ s.data.toList = k ++ 58 :: (n ++ 35 :: (r ++ 64 :: (k2 ++ 58 :: n2)))) := by
 unfold queOk at h
 have h1 := ended_not h
 rcases name_must (rd0 s) 58 m58 with ⟨k, l1, t1, hk, -, e1⟩ | ⟨-, e1⟩
 case inr =>
  have hx : (queQ s).failed = true := queQ_f (show (rd0 s).node.failed = true from name_f _ (must_f _ _ (show (rd0 s).thing.failed = true from name_f _ e1)))
  rw [hx] at h1; cases h1
 have w1 : (rd0 s).thing = (Rd.mk (mk l1) 0 false).name := by unfold Rd.thing; rw [e1]; rfl
 rcases name_must (Rd.mk (mk l1) 0 false) 35 m35 with ⟨n, l2, t2, hn, -, e2⟩ | ⟨-, e2⟩
 case inr =>
  have hx : (queQ s).failed = true := queQ_f (show (rd0 s).node.failed = true from name_f _ (by rw [w1]; exact e2))
  rw [hx] at h1; cases h1
 have w2 : (rd0 s).node = (Rd.mk (mk l2) 0 false).name := by unfold Rd.node; rw [w1, e2]
 have q1 : s.data.toList = k ++ 58 :: l1 := t1
 have q2 : l1 = n ++ 35 :: l2 := t2
 rcases name_cases (Rd.mk (mk l2) 0 false) with e | ⟨r, b, t3, hr, -, e⟩
 ·have hx : (queQ s).failed = true := queQ_f (by rw [w2, e]; rfl)
  rw [hx] at h1; cases h1
 have q3 : l2 = r ++ b := t3
 have w3 : (rd0 s).node = Rd.mk (mk b) 0 false := by rw [w2, e]
 cases hh : queHas s
 ·have hq : queQ s = Rd.mk (mk b) 0 false := by rw [← queQ_no hh, Rd.sees_no _ _ hh, w3]
  rw [hq] at h
  have hb := ended_nil h
  subst hb
  exact ⟨k, n, r, hk, hn, hr, Or.inl (by rw [q1, q2, q3]; simp)⟩
 ·have hp : preB (mk b) { data := #[64] } = true := by
   have : preB (rd0 s).node.rest { data := #[64] } = true := hh
   rw [w3] at this; exact this
  obtain ⟨l3, rfl⟩ := (pre_one b 64).1 hp
  have hse := (sees_ok (Rd.mk (mk (64 :: l3)) 0 false) 64 l3 rfl).2
  have hq : queQ s = (Rd.mk (mk l3) 0 false).thing := by rw [queQ_yes hh, w3, hse]
  rw [hq] at h h1
  rcases name_must (Rd.mk (mk l3) 0 false) 58 m58 with ⟨k2, l4, t4, hk2, -, e4⟩ | ⟨-, e4⟩
  case inr =>
   have : (Rd.mk (mk l3) 0 false).thing.failed = true := name_f _ e4
   rw [this] at h1; cases h1
  have q4 : l3 = k2 ++ 58 :: l4 := t4
  have w4 : (Rd.mk (mk l3) 0 false).thing = (Rd.mk (mk l4) 0 false).name := by unfold Rd.thing; rw [e4]
  rcases name_cases (Rd.mk (mk l4) 0 false) with e | ⟨n2, b2, t5, hn2, -, e⟩
  ·rw [w4, e] at h1; cases h1
  ·rw [w4, e] at h
   have hb := ended_nil h
   subst hb
   have q5 : l4 = n2 := by have : l4 = n2 ++ [] := t5; simpa using this
   exact ⟨k, n, r, hk, hn, hr, Or.inr ⟨k2, n2, hk2, hn2, by rw [q1, q2, q3, q4, q5]⟩⟩
theorem que_no {s : ByteArray} {k n r : List UInt8} (hk : nameL k = true) (hn : nameL n = true) (hr : nameL r = true) (ht : s.data.toList = k ++ 58 :: (n ++ 35 :: r)) : queOk s = true /\ queC s = false /\ queX s = ⟨mk k, mk n, mk r⟩ /\ queY s = ⟨noneB, noneB, noneB⟩ := by
 have hs : s = mk (k ++ 58 :: (n ++ 35 :: (r ++ []))) := eq_mk (by rw [ht, List.append_nil])
 obtain ⟨a1, a2⟩ := node_ok k n r [] hk hn hr (Or.inl rfl)
 have w3 : (rd0 s).node = Rd.mk (mk []) 0 false := by unfold rd0; rw [hs, a2]
 have hh : queHas s = false := by
  unfold queHas; rw [w3]
  exact pre_no (Rd.mk (mk []) 0 false) 64 (by rintro ⟨r, h⟩; cases h)
 have hq : queQ s = Rd.mk (mk []) 0 false := by rw [← queQ_no hh, Rd.sees_no _ _ hh, w3]
 have hy : queY s = ⟨noneB, noneB, noneB⟩ := by unfold queY ndOf; rw [queSubj_no hh]; rfl
 refine ⟨by unfold queOk; rw [hq]; decide, ?_, ?_, hy⟩
 ·unfold queC chkB
  rw [hy]
  have h0 : (noneB.toList == []) = true := by rw [Lib.toList_data]; rfl
  dsimp only
  rw [h0]; rfl
 ·have : tupNode s = ⟨mk k, mk n, mk r⟩ := by unfold tupNode rd0; rw [hs]; exact a1
  unfold queX ndOf; rw [this]
theorem que_yes {s : ByteArray} {k n r k2 n2 : List UInt8} (hk : nameL k = true) (hn : nameL n = true) (hr : nameL r = true) (hk2 : nameL k2 = true) (hn2 : nameL n2 = true) (ht : s.data.toList = k ++ 58 :: (n ++ 35 :: (r ++ 64 :: (k2 ++ 58 :: n2)))) : queOk s = true /\ queC s = true /\ queX s = ⟨mk k, mk n, mk r⟩ /\ queY s = ⟨mk k2, mk n2, noneB⟩ := by
 have hs : s = mk (k ++ 58 :: (n ++ 35 :: (r ++ 64 :: (k2 ++ 58 :: n2)))) := eq_mk ht
 obtain ⟨a1, a2⟩ := node_ok k n r (64 :: (k2 ++ 58 :: n2)) hk hn hr (Or.inr ⟨_, _, rfl, m64⟩)
 have w3 : (rd0 s).node = Rd.mk (mk (64 :: (k2 ++ 58 :: n2))) 0 false := by unfold rd0; rw [hs, a2]
 obtain ⟨p1, p2⟩ := sees_ok (Rd.mk (mk (64 :: (k2 ++ 58 :: n2))) 0 false) 64 (k2 ++ 58 :: n2) rfl
 have hh : queHas s = true := by unfold queHas; rw [w3]; exact p1
 obtain ⟨b1, b2⟩ := thing_ok k2 n2 [] hk2 hn2 (Or.inl rfl)
 rw [List.append_nil] at b1 b2
 have hq : queQ s = Rd.mk (mk []) 0 false := by rw [queQ_yes hh, w3, p2]; exact b2
 have hsu : queSubj s = ⟨mk k2, mk n2, noneB⟩ := by rw [queSubj_yes hh, w3, p2]; exact b1
 have hy : queY s = ⟨mk k2, mk n2, noneB⟩ := by unfold queY ndOf; rw [hsu]
 refine ⟨by unfold queOk; rw [hq]; decide, ?_, ?_, hy⟩
 ·unfold queC chkB
  rw [hy]
  have h1 : ((mk k2).toList == []) = false := by
   rw [Lib.toList_data, mk_list]
   have := nameL_ne hk2
   cases k2 with
   | nil => exact absurd rfl this
   | cons a l => rfl
  rw [h1]; rfl
 ·have : tupNode s = ⟨mk k, mk n, mk r⟩ := by unfold tupNode rd0; rw [hs]; exact a1
  unfold queX ndOf; rw [this]
theorem queOk_of {s : ByteArray} (h : queOk s = true) (xs now : List ByteArray) : QueOk (relU xs now s) s := by
 have hbig := big_max
 obtain ⟨k, n, r, hk, hn, hr, hx⟩ := que_parts s h
 have a1 := nameL_len hk
 have a2 := nameL_len hn
 have a3 := nameL_len hr
 have hX : queX s = ⟨mk k, mk n, mk r⟩ := by
  rcases hx with ht | ⟨k2, n2, hk2, hn2, ht⟩
  ·exact (que_no hk hn hr ht).2.2.1
  ·exact (que_yes hk hn hr hk2 hn2 ht).2.2.1
 refine ⟨?_, ?_, by simp [relU], ?_⟩
 ·rw [hX]; exact ⟨by show (mk k).size <= _; rw [mk_size]; omega, by show (mk n).size <= _; rw [mk_size]; omega, by show (mk r).size <= _; rw [mk_size]; omega⟩
 ·rw [hX]; exact decide_eq_false (nameL_pos hr)
 ·rcases hx with ht | ⟨k2, n2, hk2, hn2, ht⟩
  ·have hh : (queY s).k.size + 1 + (queY s).n.size <= 1 := by
    have hs : queY s = ⟨noneB, noneB, noneB⟩ := (que_no hk hn hr ht).2.2.2
    rw [hs]; show (0 : Nat) + 1 + 0 <= 1; omega
   omega
  ·have a4 := nameL_len hk2
   have a5 := nameL_len hn2
   rw [(que_yes hk hn hr hk2 hn2 ht).2.2.2]
   show (mk k2).size + 1 + (mk n2).size <= _
   rw [mk_size, mk_size]; omega
structure DocOk (xs now : List ByteArray) : Prop where
 hv : ∀ y ∈ xs, readS y = true
 few : xs.length <= 12
 ht : ∀ s ∈ now, tupOk s = true
 nl : now.length <= 50
theorem toldX_leaf {ts : List (Nod × Nod)} {P : Nod -> Prop} {x : Nod} {is : Int} {a b : ByteArray} {l : List WayT} (h : is ≠ 3) (h4 : is ≠ 4) : toldW ts P x (.mk is a b l) ↔ ∃ y ∈ namedW ts x (.mk is a b l), P y := by
 rw [toldW, if_neg h, if_neg h4]
structure WIn (O : Nat -> Prop) (tb : Nat) (f : Nod -> Option Value) (wb nb mb : Nat) (L : TL) (sv : Value) : Prop where
 tb : O tb
 nt : ∀ k, numX L.nt L.mt L.st k -> O k
 nr : ∀ k, relX L k -> O k
 nu : ∀ k, numX L.nu L.mu L.su k -> O k
 ms : O L.ms
 mw : O L.mw
 rows : ∀ x v k, f x = some v -> v.ownBlock = some k -> O k
 nm : ∀ k, numX nb mb sv k -> O k
 wb : O wb
theorem NumAt.keepO {α : Type} {enc : α -> Value} {cl : α -> List Value} {Gd : Value -> Prop} {tN tE : TypeId} {size : Nat} {w w' : World} {lo nb mb : Nat} {sv : Value} {vs : List α} (h : NumAt enc cl Gd tN tE size w lo nb mb sv vs) {O : Nat -> Prop} (ho : ∀ k, numX nb mb sv k -> O k) (hk : ∀ k, O k -> k < w.heap.size -> w'.heap[k]? = w.heap[k]?) : NumAt enc cl Gd tN tE size w' lo nb mb sv vs :=
 ⟨(hk nb (ho _ (Or.inl rfl)) (row_lt h.blk)).trans h.blk, h.map.move (hk mb (ho _ (Or.inr (Or.inl rfl))) h.map.lt), owns_to h.row fun g hg => hk g (ho _ (Or.inr (Or.inr hg))) (owns_lt h.row g hg).1, h.nd, h.lob, h.lom⟩
theorem WA.keepO {U : List ByteArray} {ts : List (Nod × Nod)} {xs : List ByteArray} {lo tb sb : Nat} {f : Nod -> Option Value} {who : Nod -> Nat} {wb nb mb : Nat} {L : TL} {S : TS} {sv : Value} {met : List Nod} {gone : Nat} {w w' : World} (h : WA U ts xs lo tb sb f who wb nb mb L S sv met gone w) {O : Nat -> Prop} (i : WIn O tb f wb nb mb L sv)
  (hs : w.heap.size <= w'.heap.size) (hk : ∀ k, O k -> k < w.heap.size -> w'.heap[k]? = w.heap[k]?) (hr : RulesN w' L.mb xs) : WA U ts xs lo tb sb f who wb nb mb L S sv met gone w' := by
 obtain ⟨ms, hs1, hs2⟩ := h.ta.t.sub
 obtain ⟨mw, hw1, hw2⟩ := h.ta.t.wh
 refine ⟨⟨⟨(hk tb i.tb (row_lt h.ta.t.blk)).trans h.ta.t.blk, h.ta.t.th.keepO i.nt hk, h.ta.t.rl.keepO i.nr hk, h.ta.t.us.keepO i.nu hk, ⟨ms, hs1.move (hk _ i.ms hs1.map.lt), hs2⟩, ⟨mw, hw1.move (hk _ i.mw hw1.lt), hw2⟩, h.ta.t.ok, h.ta.t.maps, h.ta.t.ntu, h.ta.t.stu, h.ta.t.lob, h.ta.t.los, h.ta.t.low⟩, ⟨fun x v hv => ⟨owns_to (h.ta.s.row x v hv).1 fun g hg => hk g (i.rows x v g hv hg) (owns_lt (h.ta.s.row x v hv).1 g hg).1, (h.ta.s.row x v hv).2⟩, h.ta.s.no, h.ta.s.kn, h.ta.s.apart⟩, hr, Nat.le_trans h.ta.sb hs, h.ta.tn⟩, ⟨h.m.num.keepO i.nm hk, h.m.kn, h.m.ms, h.m.svb⟩, (hk wb i.wb (row_lt h.blk)).trans h.blk, h.nodes, h.gl⟩
theorem WA.inLo {U : List ByteArray} {ts : List (Nod × Nod)} {xs : List ByteArray} {lo tb sb : Nat} {f : Nod -> Option Value} {who : Nod -> Nat} {wb nb mb : Nat} {L : TL} {S : TS} {sv : Value} {met : List Nod} {gone : Nat} {w : World} (h : WA U ts xs lo tb sb f who wb nb mb L S sv met gone w) (hw : lo <= wb) : WIn (fun k => lo <= k /\ k < w.heap.size) tb f wb nb mb L sv := by
 obtain ⟨ms, hs1, hs2⟩ := h.ta.t.sub
 obtain ⟨mw, hw1, hw2⟩ := h.ta.t.wh
 exact ⟨⟨h.ta.t.lob, row_lt h.ta.t.blk⟩, fun k hk => ⟨(h.ta.t.th.lt hk).2, (h.ta.t.th.lt hk).1⟩, fun k hk => ⟨(h.ta.t.rl.lt hk).2, (h.ta.t.rl.lt hk).1⟩, fun k hk => ⟨(h.ta.t.us.lt hk).2, (h.ta.t.us.lt hk).1⟩, ⟨h.ta.t.los, hs1.map.lt⟩, ⟨h.ta.t.low, hw1.lt⟩, fun x v k hv hk => ⟨(owns_lt (h.ta.s.row x v hv).1 k hk).2.1, (owns_lt (h.ta.s.row x v hv).1 k hk).1⟩, fun k hk => ⟨(h.m.num.lt hk).2, (h.m.num.lt hk).1⟩, hw, row_lt h.blk⟩
def more (O : Nat -> Prop) (w w' : World) (k : Nat) : Prop := O k \/ (w.heap.size <= k /\ k < w'.heap.size)
theorem WStep.inO {U : List ByteArray} {ts : List (Nod × Nod)} {xs : List ByteArray} {lo tb sb : Nat} {f : Nod -> Option Value} {who : Nod -> Nat} {wb nb mb : Nat} {L L' : TL} {S S' : TS} {sv sv' : Value} {w w' : World} {met' : List Nod} {gone' : Nat} (h : WStep U ts xs lo tb sb f who wb nb mb L S sv w L' S' sv' met' gone' w') {O : Nat -> Prop} (i : WIn O tb f wb nb mb L sv) : WIn (more O w w') tb f wb nb mb L' sv' := by
 have hl := h.loc
 refine ⟨Or.inl i.tb, fun k hk => ?_, fun k hk => ?_, fun k hk => ?_, ?_, ?_, fun x v k hv hk => Or.inl (i.rows x v k hv hk), fun k hk => ?_, Or.inl i.wb⟩
 ·rw [hl] at hk; exact Or.inl (i.nt k hk)
 ·have hlt := (h.at'.ta.t.rl.lt hk).1
  rcases hk with e | e | e
  ·rw [hl] at e; exact Or.inl (i.nr k (Or.inl e))
  ·rw [hl] at e; exact Or.inl (i.nr k (Or.inr (Or.inl e)))
  ·rcases h.ownR k e with e | e
   ·exact Or.inl (i.nr k (Or.inr (Or.inr e)))
   ·exact Or.inr ⟨e, hlt⟩
 ·rw [hl] at hk; exact Or.inl (i.nu k hk)
 ·rw [hl]; exact Or.inl i.ms
 ·rw [hl]; exact Or.inl i.mw
 ·have hlt := (h.at'.m.num.lt hk).1
  rcases hk with e | e | e
  ·exact Or.inl (i.nm k (Or.inl e))
  ·exact Or.inl (i.nm k (Or.inr (Or.inl e)))
  ·rcases h.ownM k e with e | e
   ·exact Or.inl (i.nm k (Or.inr (Or.inr e)))
   ·exact Or.inr ⟨e, hlt⟩
theorem WIn.walk {O : Nat -> Prop} {tb : Nat} {f : Nod -> Option Value} {wb nb mb : Nat} {L : TL} {sv : Value} (i : WIn O tb f wb nb mb L sv) {k : Nat} (hk : walkX wb nb mb L sv k) : O k := by
 rcases hk with e | e | e
 ·exact i.nr k e
 ·exact i.nm k e
 ·rw [e]; exact i.wb
theorem WIn.who {O : Nat -> Prop} {tb : Nat} {f : Nod -> Option Value} {wb nb mb : Nat} {L : TL} {sv : Value} (i : WIn O tb f wb nb mb L sv) {k : Nat} (hk : whoX wb nb mb L sv k) : O k := by
 rcases hk with e | e
 ·exact i.walk e
 ·rw [e]; exact i.mw
structure WCr (xs now U : List ByteArray) (who : Nod -> Nat) (S : TS) : Prop where
 cov : Cov U xs
 sm : ∀ y, who y < 2 ^ 64
 th : ∀ y : Nod, y.isTh = true -> ∀ i, i < 64 -> ((who y).testBit i = true ↔ S.uss[i]? = some y)
 no : ∀ y : Nod, y.isTh = false -> who y = 0
 ul : S.uss.length <= 50
 sz : ∀ u ∈ S.uss, u.k.size + 1 + u.n.size <= maxLen
 inj : ∀ (i j : Nat) (u v : Nod), S.uss[i]? = some u -> S.uss[j]? = some v -> thT u = thT v -> i = j
 us : ∀ u, u ∈ S.uss ↔ u.isTh = true /\ ∃ t ∈ tsOf now, t.2 = u
structure WkAt (xs now : List ByteArray) (x : Nod) (mr : Nat) (O : Nat -> Prop) (wb : Nat) (met : List Nod) (gone : Nat) (w : World) : Prop where
 ex : ∃ U lo tb sb f who nb mb L S sv, WA U (tsOf now) xs lo tb sb f who wb nb mb L S sv met gone w /\ WIn O tb f wb nb mb L sv /\ L.mb = mr /\ WCr xs now U who S
 gn : Gone (tsOf now) xs x met gone
 lt : ∀ k, O k -> k < w.heap.size
theorem WkAt.keep {xs now : List ByteArray} {x : Nod} {mr : Nat} {O : Nat -> Prop} {wb : Nat} {met : List Nod} {gone : Nat} {w w' : World} (h : WkAt xs now x mr O wb met gone w) (hs : w.heap.size <= w'.heap.size) (hk : ∀ k, O k -> w'.heap[k]? = w.heap[k]?) (hr : RulesN w' mr xs) : WkAt xs now x mr O wb met gone w' := by
 obtain ⟨U, lo, tb, sb, f, who, nb, mb, L, S, sv, h1, h2, h3, h4⟩ := h.ex
 exact ⟨⟨U, lo, tb, sb, f, who, nb, mb, L, S, sv, h1.keepO h2 hs (fun k hk' _ => hk k hk') (by rw [h3]; exact hr), h2, h3, h4⟩, h.gn, fun k hk' => Nat.lt_of_lt_of_le (h.lt k hk') hs⟩
theorem WkAt.below {xs now : List ByteArray} {x : Nod} {mr : Nat} {O : Nat -> Prop} {wb : Nat} {met : List Nod} {gone : Nat} {w w' : World} (h : WkAt xs now x mr O wb met gone w) (hb : Below w.heap.size w w') : WkAt xs now x mr O wb met gone w' := by
 obtain ⟨U, lo, tb, sb, f, who, nb, mb, L, S, sv, h1, h2, h3, h4⟩ := h.ex
 exact h.keep hb.size (fun k hk => hb.block k (h.lt k hk)) (by rw [← h3]; exact h1.ta.r.below hb)
theorem WkAt.rules {xs now : List ByteArray} {x : Nod} {mr : Nat} {O : Nat -> Prop} {wb : Nat} {met : List Nod} {gone : Nat} {w : World} (h : WkAt xs now x mr O wb met gone w) : RulesN w mr xs := by
 obtain ⟨U, lo, tb, sb, f, who, nb, mb, L, S, sv, h1, h2, h3, h4⟩ := h.ex
 rw [← h3]; exact h1.ta.r
theorem WkAt.gl {xs now : List ByteArray} {x : Nod} {mr : Nat} {O : Nat -> Prop} {wb : Nat} {met : List Nod} {gone : Nat} {w : World} (h : WkAt xs now x mr O wb met gone w) : gone <= met.length /\ met.length <= 32000000 := by
 obtain ⟨U, lo, tb, sb, f, who, nb, mb, L, S, sv, h1, h2, h3, h4⟩ := h.ex
 exact ⟨h1.gl, met_len h1.ta.t.ok h1.m.num.nd h1.m.kn⟩
theorem WkAt.ended {xs now : List ByteArray} {x : Nod} {mr : Nat} {O : Nat -> Prop} {wb : Nat} {met : List Nod} {gone : Nat} {w : World} (h : WkAt xs now x mr O wb met gone w) :
  Calls Tryz.prog 139 #[.pointer (some ⟨wb, 0, none⟩)] w fun e w' => e = .returned (.bool (decide (gone = met.length))) /\ Below w.heap.size w w' := by
 obtain ⟨U, lo, tb, sb, f, who, nb, mb, L, S, sv, h1, h2, h3, h4⟩ := h.ex
 exact walkEnded_any h1
theorem WkAt.step (HW : Hid TWayC) {xs now : List ByteArray} {x : Nod} {mr : Nat} {O : Nat -> Prop} {wb : Nat} {met : List Nod} {gone : Nat} {w : World} (h : WkAt xs now x mr O wb met gone w) (hg : gone < met.length) :
  Calls Tryz.prog 140 #[.pointer (some ⟨wb, 0, none⟩)] w fun e w' => e = .returned (.tuple #[]) /\ Frm O w w' /\ ∃ met', WkAt xs now x mr (more O w w') wb met' (gone + 1) w' := by
 obtain ⟨U, lo, tb, sb, f, who, nb, mb, L, S, sv, h1, h2, h3, h4⟩ := h.ex
 refine (walkStep_go HW h4.cov h1 (List.getElem?_eq_getElem hg)).mono ?_
 rintro e w' ⟨he, L', S', sv', hs⟩
 refine ⟨he, hs.fr.mono fun k _ hk => h2.walk hk, _, ⟨U, lo, tb, sb, f, who, nb, mb, L', S', sv', hs.at', hs.inO h2, by rw [hs.loc]; exact h3, ?_⟩, h.gn.next (List.getElem?_eq_getElem hg), fun k hk => ?_⟩
 ·exact ⟨h4.cov, h4.sm, by rw [hs.uss]; exact h4.th, h4.no, by rw [hs.uss]; exact h4.ul, by rw [hs.uss]; exact h4.sz, by rw [hs.uss]; exact h4.inj, by rw [hs.uss]; exact h4.us⟩
 ·rcases hk with e | e
  ·exact Nat.lt_of_lt_of_le (h.lt k e) hs.fr.size
  ·exact e.2
theorem WCr.st {xs now U : List ByteArray} {who : Nod -> Nat} {S : TS} (h : WCr xs now U who S) (x : Nod) (s : ByteArray) : (∃ u ∈ S.uss, Std (tsOf now) (ruleN xs) u x /\ thT u = s) ↔ ∃ u, InN (tsOf now) xs u x /\ thT u = s := by
 constructor
 ·rintro ⟨u, h1, h2, h3⟩
  exact ⟨u, ⟨((h.us u).1 h1).1, ((h.us u).1 h1).2, h2⟩, h3⟩
 ·rintro ⟨u, ⟨h1, h2, h4⟩, h3⟩
  exact ⟨u, (h.us u).2 ⟨h1, h2⟩, h4, h3⟩
theorem WkAt.has (HW : Hid TWayC) {xs now : List ByteArray} {x : Nod} {mr : Nat} {O : Nat -> Prop} {wb : Nat} {met : List Nod} {gone : Nat} {w : World} (h : WkAt xs now x mr O wb met gone w) (y : Nod) (hy : y.k.size + 1 + y.n.size <= maxLen) :
  Calls Tryz.prog 48 #[.pointer (some ⟨wb, 0, none⟩), .agg #[.string y.k, .string y.n, .string y.r]] w fun e w' => ∃ b, e = .returned (.bool b) /\ (b = true ↔ ∃ u, InN (tsOf now) xs u x /\ thT u = thT y) /\ Frm O w w' := by
 obtain ⟨U, lo, tb, sb, f, who, nb, mb, L, S, sv, h1, h2, h3, h4⟩ := h.ex
 refine (has_walk HW h4.cov h1 h.gn h4.sm h4.th h4.no h4.ul h4.sz h4.inj y hy).mono ?_
 rintro e w' ⟨b, he, hiff, hf⟩
 exact ⟨b, he, hiff.trans (h4.st x _), hf.mono fun k _ hk => h2.who hk⟩
theorem WkAt.who (HW : Hid TWayC) {xs now : List ByteArray} {x : Nod} {mr : Nat} {O : Nat -> Prop} {wb : Nat} {met : List Nod} {gone : Nat} {w : World} (h : WkAt xs now x mr O wb met gone w) :
  Calls Tryz.prog 83 #[.pointer (some ⟨wb, 0, none⟩)] w fun e w' => ∃ zs o c, e = .returned (.slice o zs.length c) /\ Sorted zs /\ (∀ s, s ∈ zs ↔ ∃ u, InN (tsOf now) xs u x /\ thT u = s) /\ zs.length <= 50 /\ w'.ownsRow w.heap.size 9 1 (.slice o zs.length c) zs.length (strV zs) /\ Frm O w w' := by
 obtain ⟨U, lo, tb, sb, f, who, nb, mb, L, S, sv, h1, h2, h3, h4⟩ := h.ex
 refine (who_any HW h4.cov h1 h.gn h4.sm h4.th h4.no h4.ul h4.sz h4.inj).mono ?_
 rintro e w' ⟨zs, v, he, hso, hm, hzl, hrow, hf⟩
 obtain ⟨o, c, rfl⟩ := owns_form hrow
 exact ⟨zs, o, c, he, hso, fun s => (hm s).trans (h4.st x s), hzl, hrow, hf.mono fun k _ hk => h2.who hk⟩
def CostN (xs now : List ByteArray) (x : Nod) (n : Nat) : Prop := ∃ met : List Nod, met.Nodup /\ (∀ y, y ∈ met ↔ Rch (tsOf now) (ruleN xs) x y) /\ met.length = n
theorem WkAt.allN {xs now : List ByteArray} {x : Nod} {mr : Nat} {O : Nat -> Prop} {wb : Nat} {met : List Nod} {gone : Nat} {w : World} (h : WkAt xs now x mr O wb met gone w) (e : gone = met.length) : CostN xs now x gone := by
 obtain ⟨U, lo, tb, sb, f, who, nb, mb, L, S, sv, h1, h2, h3, h4⟩ := h.ex
 subst e
 exact ⟨met, h1.m.num.nd, h.gn.all, rfl⟩
theorem WkAt.cost {xs now : List ByteArray} {x : Nod} {mr : Nat} {O : Nat -> Prop} {wb : Nat} {met : List Nod} {gone : Nat} {w : World} (h : WkAt xs now x mr O wb met gone w) {n : Nat} (hn : CostN xs now x n) : met.length <= n /\ (gone = met.length -> gone = n) := by
 obtain ⟨U, lo, tb, sb, f, who, nb, mb, L, S, sv, h1, h2, h3, h4⟩ := h.ex
 obtain ⟨all, a1, a2, a3⟩ := hn
 have hle : met.length <= n := by
  rw [← a3]
  exact nodup_sub_len _ _ h1.m.num.nd fun y hy => (a2 y).2 (h.gn.rch y hy)
 refine ⟨hle, fun e => ?_⟩
 subst e
 refine Nat.le_antisymm hle ?_
 rw [← a3]
 exact nodup_sub_len _ _ a1 fun y hy => (h.gn.all y).2 ((a2 y).1 hy)
structure Tk where
 x : Nod
 y : Nod
 now : List ByteArray
 bud : Int
 til : Int
structure Rq where
 is : Int
 st : Nat
 al : Bool
 us : List ByteArray
 tk : Option Tk
def rqL (r : Rq) (uv tp : Value) : List Value := [.int .i64 r.is, .int .i64 r.st, .bool r.al, uv, tp]
def tkL (t : Tk) (wb : Nat) : List Value := [.string t.x.k, .string t.x.n, .string t.x.r, .string t.y.k, .string t.y.n, .string t.y.r, .pointer (some ⟨wb, 0, none⟩), .int .i64 t.bud, .int .i64 t.til]
structure TkAt (xs : List ByteArray) (mr kb : Nat) (O : Nat -> Prop) (wb : Nat) (met : List Nod) (t : Tk) (st : Nat) (w : World) : Prop where
 blk : w.heap[kb]? = some (.cells (tkL t wb).toArray 115 (0, 0))
 wk : WkAt xs t.now t.x mr O wb met st w
 nO : ¬ O kb
 lt : st < met.length
 sy : t.y.k.size + 1 + t.y.n.size <= maxLen
 bd : (st : Int) < t.bud
 b9 : t.bud <= 1000000000
 t0 : 0 <= t.til
 t9 : t.til <= 1000000000
structure RqAt (xs : List ByteArray) (mr rb : Nat) (P : Nat -> Prop) (r : Rq) (uv tp : Value) (w : World) : Prop where
 blk : w.heap[rb]? = some (.cells (rqL r uv tp).toArray 161 (0, 0))
 us : StrT w uv r.us
 uP : ∀ k, uv.ownBlock = some k -> P k /\ k ≠ rb
 no : r.tk = none -> tp = .pointer none
 tk : ∀ t, r.tk = some t -> ∃ kb wb O met, tp = .pointer (some ⟨kb, 0, none⟩) /\ P kb /\ (∀ k, O k -> P k) /\ ¬ O rb /\ TkAt xs mr kb O wb met t r.st w
 live : r.tk = none ↔ ¬ (r.is = 1 \/ r.is = 2)
 fresh : r.tk ≠ none -> r.al = false /\ r.us = [] /\ uv = .slice none 0 0
 rP : P rb
 lt : ∀ k, P k -> k < w.heap.size
 sl : r.st <= 32000000
 ul : r.us.length <= 50
 is0 : 1 <= r.is
 is9 : r.is <= 6
structure Kpt (R : Nat -> Prop) (F : World -> Prop) (w : World) : Prop where
 all : ∀ w' : World, (∀ k, R k -> w'.heap[k]? = w.heap[k]?) -> F w'
 lt : ∀ k, R k -> k < w.heap.size
theorem Kpt.now {R : Nat -> Prop} {F : World -> Prop} {w : World} (h : Kpt R F w) : F w := h.all w fun _ _ => rfl
theorem Kpt.to {R : Nat -> Prop} {F : World -> Prop} {w w' : World} (h : Kpt R F w) (hs : w.heap.size <= w'.heap.size) (hk : ∀ k, R k -> w'.heap[k]? = w.heap[k]?) : Kpt R F w' :=
 ⟨fun w'' h' => h.all w'' fun k e => (h' k e).trans (hk k e), fun k e => Nat.lt_of_lt_of_le (h.lt k e) hs⟩
theorem Kpt.frm {R X : Nat -> Prop} {F : World -> Prop} {w w' : World} (h : Kpt R F w) (hf : Frm X w w') (hx : ∀ k, R k -> ¬ X k) : Kpt R F w' :=
 h.to hf.size fun k e => hf.block k (h.lt k e) (hx k e)
theorem Kpt.below {R : Nat -> Prop} {F : World -> Prop} {w w' : World} (h : Kpt R F w) (hb : Below w.heap.size w w') : Kpt R F w' :=
 h.to hb.size fun k e => hb.block k (h.lt k e)
theorem strT_own {w : World} {v : Value} {xs : List ByteArray} (h : StrT w v xs) : ∀ k, v.ownBlock = some k -> k < w.heap.size /\ ∃ cur : List Value, w.heap[k]? = some (.cells cur.toArray 9 (0, 0)) := by
 intro k hk
 rcases h with ⟨rfl, -⟩ | ⟨b, cap, cur, rfl, h2, -⟩
 ·cases hk
 ·injection hk with hk
  subst hk
  exact ⟨row_lt h2, _, h2⟩
theorem strT_to {w w' : World} {v : Value} {xs : List ByteArray} (h : StrT w v xs) (hk : ∀ k, v.ownBlock = some k -> w'.heap[k]? = w.heap[k]?) : StrT w' v xs := by
 rcases h with e | ⟨b, cap, cur, rfl, h2, h3⟩
 ·exact Or.inl e
 ·exact Or.inr ⟨b, cap, cur, rfl, (hk b rfl).trans h2, h3⟩
theorem TkAt.keep {xs : List ByteArray} {mr kb : Nat} {O : Nat -> Prop} {wb : Nat} {met : List Nod} {t : Tk} {st : Nat} {w w' : World} (h : TkAt xs mr kb O wb met t st w) (hs : w.heap.size <= w'.heap.size) (hk : ∀ k, O k -> w'.heap[k]? = w.heap[k]?) (hb : w'.heap[kb]? = w.heap[kb]?) (hr : RulesN w' mr xs) : TkAt xs mr kb O wb met t st w' :=
 { h with blk := hb.trans h.blk, wk := h.wk.keep hs hk hr }
theorem RqAt.keep {xs : List ByteArray} {mr rb : Nat} {P : Nat -> Prop} {r : Rq} {uv tp : Value} {w w' : World} (h : RqAt xs mr rb P r uv tp w) (hs : w.heap.size <= w'.heap.size) (hk : ∀ k, P k -> w'.heap[k]? = w.heap[k]?) (hr : RulesN w' mr xs) : RqAt xs mr rb P r uv tp w' := by
 refine { h with blk := (hk rb h.rP).trans h.blk, us := strT_to h.us fun k e => hk k (h.uP k e).1, lt := fun k e => Nat.lt_of_lt_of_le (h.lt k e) hs, tk := fun t ht => ?_ }
 obtain ⟨kb, wb, O, met, h1, h2, h3, h4, h5⟩ := h.tk t ht
 exact ⟨kb, wb, O, met, h1, h2, h3, h4, h5.keep hs (fun k e => hk k (h3 k e)) (hk kb h2) hr⟩
def Rq.ended (r : Rq) (is : Int) : Rq := { r with is := is, tk := none }
def lateR (clock : Int) (r : Rq) : Rq := match r.tk with
 | none => r
 | some t => if t.til <= clock then r.ended 5 else r
theorem lateR_none {clock : Int} {r : Rq} (h : r.tk = none) : lateR clock r = r := by unfold lateR; rw [h]
theorem lateR_yes {clock : Int} {r : Rq} {t : Tk} (h : r.tk = some t) (hl : t.til <= clock) : lateR clock r = r.ended 5 := by unfold lateR; rw [h]; exact if_pos hl
theorem lateR_not {clock : Int} {r : Rq} {t : Tk} (h : r.tk = some t) (hl : ¬ t.til <= clock) : lateR clock r = r := by unfold lateR; rw [h]; exact if_neg hl
def Tk.chk (t : Tk) : Bool := chkB t.y.k t.y.n t.y.r
structure AnsR (xs : List ByteArray) (t : Tk) (al : Bool) (us : List ByteArray) : Prop where
 yes : t.chk = true -> us = [] /\ (al = true ↔ ∃ u, InN (tsOf t.now) xs u t.x /\ thT u = thT t.y)
 who : t.chk = false -> al = false /\ Sorted us /\ ∀ s, s ∈ us ↔ ∃ u, InN (tsOf t.now) xs u t.x /\ thT u = s
structure StepR (xs : List ByteArray) (t : Tk) (r r' : Rq) (fin : Bool) : Prop where
 cost : ∀ n, CostN xs t.now t.x n -> (fin = true -> r.st + 1 = n) /\ (fin = false -> r.st + 1 < n)
 all : fin = true -> CostN xs t.now t.x (r.st + 1)
 done : fin = true -> r'.is = 3 /\ r'.st = r.st + 1 /\ r'.tk = none /\ AnsR xs t r'.al r'.us
 bud : fin = false -> (r.st : Int) + 1 = t.bud -> r' = { r with st := r.st + 1, is := 4, tk := none }
 on : fin = false -> (r.st : Int) + 1 ≠ t.bud -> r' = { r with st := r.st + 1 }
structure Dk where
 qu : Int
 clock : Int
 rs : List Rq
 wk : List (Option Nat)
structure Rl where
 rb : Nat
 P : Nat -> Prop
 uv : Value
 tp : Value
def rlV (l : Rl) : Value := .pointer (some ⟨l.rb, 0, none⟩)
def wkV (ls : List Rl) : Option Nat -> Value
 | none => .pointer none
 | some j => (ls[j]?.map rlV).getD (.pointer none)
theorem wkV_some (ls : List Rl) (j : Nat) : wkV ls (some j) = (ls[j]?.map rlV).getD (.pointer none) := rfl
structure DkOk (D : Dk) : Prop where
 w1 : 1 <= D.wk.length
 w4 : D.wk.length <= 4
 rl : D.rs.length <= 30
 c0 : 0 <= D.clock
 c9 : D.clock <= 1000000000
 q1 : 1 <= D.qu
 q6 : D.qu <= 6
 wj : ∀ i j : Nat, D.wk[i]? = some (some j) -> j < D.rs.length
def DkW (D : Dk) : Prop := ∀ (i j : Nat) (r : Rq), D.wk[i]? = some (some j) -> D.rs[j]? = some r -> r.tk ≠ none
structure DkAt (xs : List ByteArray) (mr : Nat) (R : Nat -> Prop) (db : Nat) (Q : Nat -> Prop) (D : Dk) (tv : Value) (wb : Nat) (ls : List Rl) (w : World) : Prop where
 blk : w.heap[db]? = some (.cells (deskL D.qu D.clock tv (.slice (some ⟨wb, 0, none⟩) D.wk.length D.wk.length)).toArray 157 (0, 0))
 row : w.ownsRow 0 158 1 tv ls.length (ls.map rlV)
 wrow : w.heap[wb]? = some (.cells (D.wk.map (wkV ls)).toArray 158 (0, 0))
 len : ls.length = D.rs.length
 at' : ∀ (i : Nat) (l : Rl) (r : Rq), ls[i]? = some l -> D.rs[i]? = some r -> RqAt xs mr l.rb l.P r l.uv l.tp w
 sep : ∀ (i j : Nat) (l l' : Rl) (k : Nat), ls[i]? = some l -> ls[j]? = some l' -> l.P k -> l'.P k -> i = j
 inQ : ∀ l ∈ ls, ∀ k, l.P k -> Q k
 dQ : Q db
 wQ : Q wb
 tQ : ∀ k, tv.ownBlock = some k -> Q k
 dn : ∀ l ∈ ls, ¬ l.P db
 wn : ∀ l ∈ ls, ¬ l.P wb
 tn : ∀ l ∈ ls, ∀ k, tv.ownBlock = some k -> ¬ l.P k
 tw : tv.ownBlock ≠ some wb
 lt : ∀ k, Q k -> k < w.heap.size
 ok : DkOk D
 ru : Kpt R (fun w => RulesN w mr xs) w
 rq : ∀ k, R k -> ¬ Q k
theorem DkAt.keep {xs : List ByteArray} {mr : Nat} {R : Nat -> Prop} {db : Nat} {Q : Nat -> Prop} {D : Dk} {tv : Value} {wb : Nat} {ls : List Rl} {w w' : World} (h : DkAt xs mr R db Q D tv wb ls w) (hs : w.heap.size <= w'.heap.size) (hk : ∀ k, Q k -> w'.heap[k]? = w.heap[k]?) (hr : ∀ k, R k -> w'.heap[k]? = w.heap[k]?) : DkAt xs mr R db Q D tv wb ls w' :=
 { h with blk := (hk _ h.dQ).trans h.blk, row := owns_to h.row fun g hg => hk g (h.tQ g hg), wrow := (hk _ h.wQ).trans h.wrow, at' := fun i l r hl hr' => (h.at' i l r hl hr').keep hs (fun k e => hk k (h.inQ l (List.mem_of_getElem? hl) k e)) (h.ru.all w' hr), lt := fun k e => Nat.lt_of_lt_of_le (h.lt k e) hs, ru := h.ru.to hs hr }
theorem DkAt.below {xs : List ByteArray} {mr : Nat} {R : Nat -> Prop} {db : Nat} {Q : Nat -> Prop} {D : Dk} {tv : Value} {wb : Nat} {ls : List Rl} {w w' : World} (h : DkAt xs mr R db Q D tv wb ls w) (hb : Below w.heap.size w w') : DkAt xs mr R db Q D tv wb ls w' :=
 h.keep hb.size (fun k hk => hb.block k (h.lt k hk)) (fun k hk => hb.block k (h.ru.lt k hk))
theorem DkAt.wide {xs : List ByteArray} {mr : Nat} {R : Nat -> Prop} {db : Nat} {Q Q' : Nat -> Prop} {D : Dk} {tv : Value} {wb : Nat} {ls : List Rl} {w : World} (h : DkAt xs mr R db Q D tv wb ls w) (hq : ∀ k, Q k -> Q' k) (hl : ∀ k, Q' k -> k < w.heap.size) (hn : ∀ k, R k -> ¬ Q' k) : DkAt xs mr R db Q' D tv wb ls w :=
 { h with inQ := fun l m k e => hq k (h.inQ l m k e), dQ := hq _ h.dQ, wQ := hq _ h.wQ, tQ := fun k e => hq k (h.tQ k e), lt := hl, rq := hn }
theorem wkV_set {ls : List Rl} {i : Nat} {l l' : Rl} (h : ls[i]? = some l) (hr : l'.rb = l.rb) (o : Option Nat) : wkV (ls.set i l') o = wkV ls o := by
 cases o with
 | none => rfl
 | some j =>
  rw [wkV_some, wkV_some]
  have hi := (List.getElem?_eq_some_iff.1 h).1
  by_cases e : i = j
  ·subst e
   rw [List.getElem?_set_self hi, h]
   show rlV l' = rlV l
   unfold rlV; rw [hr]
  ·rw [List.getElem?_set_ne e]
theorem rlV_set {ls : List Rl} {i : Nat} {l l' : Rl} (h : ls[i]? = some l) (hr : l'.rb = l.rb) : (ls.set i l').map rlV = ls.map rlV := by
 rw [List.map_set]
 have e : rlV l' = rlV l := by unfold rlV; rw [hr]
 rw [e]
 apply List.ext_getElem?
 intro j
 by_cases hj : i = j
 ·subst hj
  rw [List.getElem?_set_self (by rw [List.length_map]; exact (List.getElem?_eq_some_iff.1 h).1), List.getElem?_map, h]; rfl
 ·rw [List.getElem?_set_ne hj]
theorem DkAt.upd {xs : List ByteArray} {mr : Nat} {R : Nat -> Prop} {db : Nat} {Q : Nat -> Prop} {D : Dk} {tv : Value} {wb : Nat} {ls : List Rl} {w w' : World} (h : DkAt xs mr R db Q D tv wb ls w) {i : Nat} {l l' : Rl} {r r' : Rq} (hl : ls[i]? = some l) (hr : D.rs[i]? = some r) (hb : l'.rb = l.rb) (hf : Frm l.P w w') (hP : ∀ k, l'.P k -> more l.P w w' k) (hR : RqAt xs mr l'.rb l'.P r' l'.uv l'.tp w') :
  DkAt xs mr R db (more Q w w') { D with rs := D.rs.set i r' } tv wb (ls.set i l') w' := by
 have hi := (List.getElem?_eq_some_iff.1 hl).1
 have hm := List.mem_of_getElem? hl
 have hku : Kpt R (fun w => RulesN w mr xs) w' := h.ru.frm hf fun k hk e => h.rq k hk (h.inQ l hm k e)
 have hru : RulesN w' mr xs := hku.now
 have hmem : ∀ a ∈ ls.set i l', a = l' \/ a ∈ ls := fun a ha => (List.mem_or_eq_of_mem_set ha).symm
 refine ⟨?_, ?_, ?_, ?_, ?_, ?_, ?_, Or.inl h.dQ, Or.inl h.wQ, fun k e => Or.inl (h.tQ k e), ?_, ?_, ?_, h.tw, ?_, ?_, hku, fun k hk e => ?_⟩
 ·exact (hf.block _ (row_lt h.blk) (h.dn l hm)).trans h.blk
 ·rw [rlV_set hl hb, List.length_set]
  exact owns_to h.row fun g hg => hf.block g (owns_lt h.row g hg).1 (h.tn l hm g hg)
 ·have e : (fun o => wkV (ls.set i l') o) = wkV ls := funext fun o => wkV_set hl hb o
  show w'.heap[wb]? = some (.cells (D.wk.map (fun o => wkV (ls.set i l') o)).toArray _ _)
  rw [e]
  exact (hf.block _ (row_lt h.wrow) (h.wn l hm)).trans h.wrow
 ·rw [List.length_set]; show _ = (D.rs.set i r').length; rw [List.length_set]; exact h.len
 ·intro j a b ha hb'
  by_cases e : i = j
  ·subst e
   rw [List.getElem?_set_self hi] at ha
   injection ha with ha
   have hi2 := (List.getElem?_eq_some_iff.1 hr).1
   have hb2 : (D.rs.set i r')[i]? = some b := hb'
   rw [List.getElem?_set_self hi2] at hb2
   injection hb2 with hb2
   rw [← ha, ← hb2]; exact hR
  ·rw [List.getElem?_set_ne e] at ha
   have hb2 : (D.rs.set i r')[j]? = some b := hb'
   rw [List.getElem?_set_ne e] at hb2
   refine (h.at' j a b ha hb2).keep hf.size (fun k hk => hf.block k ((h.at' j a b ha hb2).lt k hk) fun hx => e (h.sep i j l a k hl ha hx hk)) hru
 ·intro a b la lb k ha hb' pa pb
  by_cases ea : i = a
  ·by_cases eb : i = b
   ·exact ea.symm.trans eb
   ·subst ea
    rw [List.getElem?_set_self hi] at ha
    injection ha with ha
    rw [List.getElem?_set_ne eb] at hb'
    rw [← ha] at pa
    rcases hP k pa with e | e
    ·exact h.sep i b l lb k hl hb' e pb
    ·have := h.lt k (h.inQ lb (List.mem_of_getElem? hb') k pb); omega
  ·rw [List.getElem?_set_ne ea] at ha
   by_cases eb : i = b
   ·subst eb
    rw [List.getElem?_set_self hi] at hb'
    injection hb' with hb'
    rw [← hb'] at pb
    rcases hP k pb with e | e
    ·exact h.sep a i la l k ha hl pa e
    ·have := h.lt k (h.inQ la (List.mem_of_getElem? ha) k pa); omega
   ·rw [List.getElem?_set_ne eb] at hb'
    exact h.sep a b la lb k ha hb' pa pb
 ·intro a ha k pa
  rcases hmem a ha with e | e
  ·rw [e] at pa
   rcases hP k pa with e | e
   ·exact Or.inl (h.inQ l hm k e)
   ·exact Or.inr e
  ·exact Or.inl (h.inQ a e k pa)
 ·intro a ha pa
  rcases hmem a ha with e | e
  ·rw [e] at pa
   rcases hP _ pa with e | e
   ·exact h.dn l hm e
   ·have := h.lt _ h.dQ; omega
  ·exact h.dn a e pa
 ·intro a ha pa
  rcases hmem a ha with e | e
  ·rw [e] at pa
   rcases hP _ pa with e | e
   ·exact h.wn l hm e
   ·have := h.lt _ h.wQ; omega
  ·exact h.wn a e pa
 ·intro a ha k hk pa
  rcases hmem a ha with e | e
  ·rw [e] at pa
   rcases hP _ pa with e | e
   ·exact h.tn l hm k hk e
   ·have := h.lt _ (h.tQ k hk); omega
  ·exact h.tn a e k hk pa
 ·intro k hk
  rcases hk with e | e
  ·exact Nat.lt_of_lt_of_le (h.lt k e) hf.size
  ·exact e.2
 ·exact { h.ok with rl := by show (D.rs.set i r').length <= 30; rw [List.length_set]; exact h.ok.rl, wj := fun a b hab => by show b < (D.rs.set i r').length; rw [List.length_set]; exact h.ok.wj a b hab }
 ·rcases e with e | e
  ·exact h.rq k hk e
  ·have := h.ru.lt k hk; omega
def waitsR (r : Rq) : Bool := decide (r.is = 1)
theorem int_beq (a b : Int) : (a == b) = decide (a = b) := by
 by_cases e : a = b
 ·rw [e]; simp
 ·simp [e]
theorem rqWaits_any {rb : Nat} {r : Rq} {uv tp : Value} {w : World} (h : w.heap[rb]? = some (.cells (rqL r uv tp).toArray 161 (0, 0))) :
  Calls Tryz.prog 162 #[.pointer (some ⟨rb, 0, none⟩)] w fun e w' => e = .returned (.bool (waitsR r)) /\ w' = w := by
 have c0 := row_cell h (j := 0) rfl
 unfold waitsR
 generalize r.is = is at *
 clear h
 go_enter Tryz.func162, Tryz.ntmps162
 go_wp2
 go_ret
 exact ⟨ret_bool (int_beq _ _), rfl⟩
theorem rqEnded_no {rb kb : Nat} {r : Rq} {uv : Value} {w : World} (h : w.heap[rb]? = some (.cells (rqL r uv (.pointer (some ⟨kb, 0, none⟩))).toArray 161 (0, 0))) :
  Calls Tryz.prog 114 #[.pointer (some ⟨rb, 0, none⟩)] w fun e w' => e = .returned (.bool false) /\ w' = w := by
 have c0 := row_cell h (j := 4) rfl
 clear h
 go_enter Tryz.func114, Tryz.ntmps114
 go_wp2
 go_ret
 exact ⟨rfl, rfl⟩
theorem rqEnded_yes {rb : Nat} {r : Rq} {uv : Value} {w : World} (h : w.heap[rb]? = some (.cells (rqL r uv (.pointer none)).toArray 161 (0, 0))) :
  Calls Tryz.prog 114 #[.pointer (some ⟨rb, 0, none⟩)] w fun e w' => e = .returned (.bool true) /\ w' = w := by
 have c0 := row_cell h (j := 4) rfl
 clear h
 go_enter Tryz.func114, Tryz.ntmps114
 go_wp2
 go_ret
 exact ⟨rfl, rfl⟩
theorem rqEnded_any {xs : List ByteArray} {mr rb : Nat} {P : Nat -> Prop} {r : Rq} {uv tp : Value} {w : World} (h : RqAt xs mr rb P r uv tp w) :
  Calls Tryz.prog 114 #[.pointer (some ⟨rb, 0, none⟩)] w fun e w' => e = .returned (.bool (!r.tk.isSome)) /\ w' = w := by
 have hb := h.blk
 cases ht : r.tk with
 | none => rw [h.no ht] at hb; exact rqEnded_yes hb
 | some t =>
  obtain ⟨kb, wb, O, met, h1, -⟩ := h.tk t ht
  rw [h1] at hb
  exact rqEnded_no hb
theorem frm_set (w : World) (b i : Nat) (v : Value) : Frm (fun k => k = b) w (w.setCell ⟨b, i, none⟩ v) := ⟨rfl, rfl, rfl, by simp [World.setCell], fun k _ hx => Below.heap_setCell _ _ _ _ hx⟩
theorem setSz (w : World) (a : Addr) (v : Value) : (w.setCell a v).heap.size = w.heap.size := by simp [World.setCell]
theorem rqEnd_any {rb : Nat} {r : Rq} {uv tp : Value} {w : World} (h : w.heap[rb]? = some (.cells (rqL r uv tp).toArray 161 (0, 0))) (k : Int) :
  Calls Tryz.prog 115 #[.pointer (some ⟨rb, 0, none⟩), .int .i64 k] w fun e w' => e = .returned (.tuple #[]) /\ w'.heap[rb]? = some (.cells (rqL (r.ended k) uv (.pointer none)).toArray 161 (0, 0)) /\ Frm (fun j => j = rb) w w' /\ w'.heap.size = w.heap.size := by
 have c0 := row_cell h (j := 0) rfl
 have c4 := row_cell h (j := 4) rfl
 have HE : Hid (((w.setCell ⟨rb, 0, none⟩ (.int .i64 k)).setCell ⟨rb, 4, none⟩ (.pointer none)).heap[rb]? = some (.cells (rqL (r.ended k) uv (.pointer none)).toArray 161 (0, 0))) := row_set (row_set h 0 _) 4 _
 have hlt := row_lt h
 generalize rqL (r.ended k) uv (.pointer none) = L at *
 have f0 := row_frozen h 0
 have f4 := row_frozen h 4
 clear h
 go_enter Tryz.func115, Tryz.ntmps115
 go_wp2
 go_end0
 exact ⟨rfl, HE.out, (frm_set _ _ _ _).trans (frm_set _ _ _ _) fun _ _ e => e, by rw [setSz, setSz]⟩
def waitN (rs : List Rq) : Nat := rs.countP waitsR
def fullD (D : Dk) : Bool := decide (30 <= D.rs.length) || decide (D.qu <= (waitN D.rs : Nat))
def nodeW (rs : List Rq) (o : Option Nat) : Option Nod := o.bind fun j => rs[j]?.bind fun r => r.tk.map Tk.x
def busyN (D : Dk) (x : Nod) : Bool := D.wk.any fun o => decide (nodeW D.rs o = some x)
def mayR (D : Dk) (r : Rq) : Bool := waitsR r && (match r.tk with
 | none => false
 | some t => !busyN D t.x)
def giveD (D : Dk) (i : Nat) : Dk := match D.rs.findIdx? (mayR D) with
 | none => D
 | some j => { D with rs := D.rs.modify j fun r => { r with is := 2 }, wk := D.wk.set i (some j) }
def liveJ (rs : List Rq) (j : Nat) : Bool := match rs[j]? with
 | none => false
 | some r => r.tk.isSome
def dismW (rs : List Rq) (o : Option Nat) : Option Nat := o.bind fun j => if liveJ rs j = true then some j else none
def dismissD (D : Dk) : Dk := { D with wk := D.wk.map (dismW D.rs) }
def takeD (D : Dk) (t : Tk) : Dk := { D with rs := D.rs ++ [lateR D.clock ⟨1, 0, false, [], some t⟩] }
def tickC (D : Dk) : Int := min (D.clock + 1) 1000000000
def tickD (D : Dk) : Dk := dismissD { D with clock := tickC D, rs := D.rs.map (lateR (tickC D)) }
def hasD (D : Dk) (id : Int) : Bool := decide (1 <= id) && decide (id <= (D.rs.length : Nat))
def cancelB (D : Dk) (id : Int) : Bool := hasD D id && liveJ D.rs (id.toNat - 1)
def cancelD (D : Dk) (id : Int) : Dk := if cancelB D id = true then dismissD { D with rs := D.rs.modify (id.toNat - 1) fun r => r.ended 6 } else D
inductive DStep (xs : List ByteArray) (D : Dk) (i : Nat) : Dk -> Prop
 | idle (D1 : Dk) (h1 : D1 = if D.wk[i]? = some none then giveD D i else D) (h2 : D1.wk[i]? = some none) : DStep xs D i D1
 | work (D1 : Dk) (h1 : D1 = if D.wk[i]? = some none then giveD D i else D) (j : Nat) (h2 : D1.wk[i]? = some (some j)) (r r' : Rq) (t : Tk) (fin : Bool) (hr : D1.rs[j]? = some r) (ht : r.tk = some t) (hs : StepR xs t r r' fin) : DStep xs D i (dismissD { D1 with rs := D1.rs.set j r' })
theorem dismissD_id {D : Dk} (h : DkW D) (hj : ∀ i j : Nat, D.wk[i]? = some (some j) -> j < D.rs.length) : dismissD D = D := by
 have e : D.wk.map (dismW D.rs) = D.wk := by
  apply List.ext_getElem?
  intro i
  rw [List.getElem?_map]
  cases ho : D.wk[i]? with
  | none => rfl
  | some o =>
   cases o with
   | none => rfl
   | some j =>
    obtain ⟨r, hr⟩ : ∃ r, D.rs[j]? = some r := ⟨_, List.getElem?_eq_getElem (hj i j ho)⟩
    have h1 := h i j r ho hr
    have h2 : liveJ D.rs j = true := by
     unfold liveJ; rw [hr]
     show r.tk.isSome = true
     cases hk : r.tk with
     | none => exact absurd hk h1
     | some t => rfl
    show some (dismW D.rs (some j)) = _
    unfold dismW
    show some (if liveJ D.rs j = true then some j else none) = _
    rw [if_pos h2]
 unfold dismissD
 rw [e]
theorem dismissD_w (D : Dk) : DkW (dismissD D) := by
 intro i j r hi hr
 have hi2 : (D.wk.map (dismW D.rs))[i]? = some (some j) := hi
 rw [List.getElem?_map] at hi2
 cases ho : D.wk[i]? with
 | none => rw [ho] at hi2; cases hi2
 | some o =>
  rw [ho] at hi2
  injection hi2 with hi2
  cases o with
  | none => cases hi2
  | some j' =>
   have hi3 : (if liveJ D.rs j' = true then some j' else none) = some j := hi2
   split at hi3
   ·rename_i hl
    injection hi3 with hi3
    subst hi3
    have hr2 : D.rs[j']? = some r := hr
    unfold liveJ at hl
    rw [hr2] at hl
    intro e
    have hl2 : r.tk.isSome = true := hl
    rw [e] at hl2
    cases hl2
   ·cases hi3
theorem DkAt.cell {xs : List ByteArray} {mr : Nat} {R : Nat -> Prop} {db : Nat} {Q : Nat -> Prop} {D : Dk} {tv : Value} {wb : Nat} {ls : List Rl} {w : World} (h : DkAt xs mr R db Q D tv wb ls w) {i : Nat} {l : Rl} (hl : ls[i]? = some l) : ∃ g c, tv = .slice (some ⟨g, 0, none⟩) ls.length c /\ w.cell? ⟨g, i, none⟩ = some (.pointer (some ⟨l.rb, 0, none⟩)) := by
 obtain ⟨g, c, h1, h2⟩ := owns_cell h.row (by have := (List.getElem?_eq_some_iff.1 hl).1; omega)
 exact ⟨g, c, h1, h2 i _ (by rw [List.getElem?_map, hl]; rfl)⟩
theorem DkAt.get {xs : List ByteArray} {mr : Nat} {R : Nat -> Prop} {db : Nat} {Q : Nat -> Prop} {D : Dk} {tv : Value} {wb : Nat} {ls : List Rl} {w : World} (h : DkAt xs mr R db Q D tv wb ls w) {i : Nat} (hi : i < D.rs.length) : ∃ l r, ls[i]? = some l /\ D.rs[i]? = some r /\ RqAt xs mr l.rb l.P r l.uv l.tp w := by
 have hl : i < ls.length := by rw [h.len]; exact hi
 exact ⟨_, _, List.getElem?_eq_getElem hl, List.getElem?_eq_getElem hi, h.at' i _ _ (List.getElem?_eq_getElem hl) (List.getElem?_eq_getElem hi)⟩
theorem waitN_next {rs : List Rq} {k : Nat} {r : Rq} (h : rs[k]? = some r) : waitN (rs.take (k + 1)) = waitN (rs.take k) + if waitsR r = true then 1 else 0 := by
 unfold waitN
 obtain ⟨h1, h2⟩ := List.getElem?_eq_some_iff.1 h
 rw [List.take_succ_eq_append_getElem h1, h2, List.countP_append, List.countP_singleton]
theorem waitN_le (rs : List Rq) : waitN rs <= rs.length := List.countP_le_length
theorem dkWaiting_any {xs : List ByteArray} {mr : Nat} {R : Nat -> Prop} {db : Nat} {Q : Nat -> Prop} {D : Dk} {tv : Value} {wb : Nat} {ls : List Rl} {w : World} (h : DkAt xs mr R db Q D tv wb ls w) :
  Calls Tryz.prog 107 #[.pointer (some ⟨db, 0, none⟩)] w fun e w' => e = .returned (.int .i64 (waitN D.rs : Nat)) /\ w' = w := by
 have d2 := row_cell h.blk (j := 2) rfl
 have HD : Hid (DkAt xs mr R db Q D tv wb ls w) := h
 have h30 := h.ok.rl
 obtain ⟨N, hN⟩ : ∃ N, D.rs.length = N := ⟨_, rfl⟩
 have HN : Hid (D.rs.length = N) := hN
 obtain ⟨tx, tc, htv⟩ := owns_form h.row
 rw [htv, h.len, hN] at d2
 have HTV : Hid (tv = .slice tx ls.length tc) := htv
 rw [hN] at h30
 clear h htv hN
 go_enter Tryz.func107, Tryz.ntmps107
 go_wp2
 go_loopw [3, 11] (fun c i wr => ∃ k : Nat, k <= N /\ c = .int .i64 (waitN (D.rs.take k) : Nat) /\ i = .int .i64 k /\ wr = w) (fun _ i _ => N - (intOf i).toNat)
 case atStart => exact ⟨0, Nat.zero_le _, rfl, rfl, rfl⟩
 case round =>
  obtain ⟨k, hk, rfl, rfl, rfl⟩ := hrel
  have hwn : waitN (D.rs.take k) <= 30 := Nat.le_trans (waitN_le _) (by rw [List.length_take]; omega)
  by_cases hlt : k < N
  ·obtain ⟨l, r, hl, hr, hR⟩ := HD.out.get (i := k) (by have := HN.out; omega)
   obtain ⟨g, c, hg, hcell⟩ := HD.out.cell hl
   rw [HTV.out] at hg
   injection hg with hg _ hcc
   subst hg
   subst hcc
   have HWT : Hid (Calls Tryz.prog 162 #[.pointer (some ⟨l.rb, 0, none⟩)] wr fun e w' => e = .returned (.bool (waitsR r)) /\ w' = wr) := rqWaits_any hR.blk
   have HNX : Hid (waitN (D.rs.take (k + 1)) = waitN (D.rs.take k) + if waitsR r = true then 1 else 0) := waitN_next hr
   clear hl hr hR HD HTV
   generalize waitN (D.rs.take k) = cn at *
   cases hw : waitsR r with
   | true =>
    rw [hw] at HWT HNX
    go_wp2_with (go_at_call 162; refine HWT.out.mono ?_; rintro e w1 ⟨rfl, hw1⟩; subst w1)
    go_roundw
    case rel => exact ⟨k + 1, by omega, by rw [HNX.out]; go_num, by go_num, trivial⟩
    case measure => simp [intOf]; omega
   | false =>
    rw [hw] at HWT HNX
    go_wp2_with (go_at_call 162; refine HWT.out.mono ?_; rintro e w1 ⟨rfl, hw1⟩; subst w1)
    go_roundw
    case rel => exact ⟨k + 1, by omega, by rw [HNX.out]; rfl, by go_num, trivial⟩
    case measure => simp [intOf]; omega
  ·obtain rfl : k = N := by omega
   have HE : Hid (waitN (D.rs.take k) = waitN D.rs) := by
    show _ = _
    rw [List.take_of_length_le (by have := HN.out; omega)]
   clear HD HTV
   go_wp2
   go_ret
   rw [HE.out]
   exact ⟨rfl, rfl⟩
theorem DkAt.setW {xs : List ByteArray} {mr : Nat} {R : Nat -> Prop} {db : Nat} {Q : Nat -> Prop} {D : Dk} {tv : Value} {wb : Nat} {ls : List Rl} {w : World} (h : DkAt xs mr R db Q D tv wb ls w) (i : Nat) (o : Option Nat) (ho : ∀ j, o = some j -> j < D.rs.length) :
  DkAt xs mr R db Q { D with wk := D.wk.set i o } tv wb ls (w.setCell ⟨wb, i, none⟩ (wkV ls o)) := by
 have hf := frm_set w wb i (wkV ls o)
 have hz := setSz w ⟨wb, i, none⟩ (wkV ls o)
 have hdw : db ≠ wb := by
  intro e
  have h1 := h.blk
  rw [e, h.wrow] at h1
  injection h1 with h1
  injection h1 with _ h1
  revert h1; decide
 have hR : ∀ k, R k -> (w.setCell ⟨wb, i, none⟩ (wkV ls o)).heap[k]? = w.heap[k]? := fun k hk => hf.block k (h.ru.lt k hk) fun e => h.rq k hk (e ▸ h.wQ)
 refine { h with blk := ?_, row := owns_to h.row fun g hg => hf.block g (owns_lt h.row g hg).1 fun e => h.tw (by rw [hg, e]), wrow := ?_, at' := fun a l r hl hr => (h.at' a l r hl hr).keep hf.size (fun k hk => hf.block k ((h.at' a l r hl hr).lt k hk) fun e => h.wn l (List.mem_of_getElem? hl) (e ▸ hk)) (h.ru.all _ hR), lt := fun k e => by rw [hz]; exact h.lt k e, ok := ?_, ru := h.ru.to (by rw [hz]; exact Nat.le_refl _) hR }
 ·show _ = some (Obj.cells (deskL D.qu D.clock tv (.slice (some ⟨wb, 0, none⟩) (D.wk.set i o).length (D.wk.set i o).length)).toArray _ _)
  rw [List.length_set]
  exact (hf.block db (row_lt h.blk) hdw).trans h.blk
 ·show _ = some (Obj.cells ((D.wk.set i o).map (wkV ls)).toArray _ _)
  rw [List.map_set]
  exact row_set h.wrow i _
 ·refine { h.ok with w1 := by show 1 <= (D.wk.set i o).length; rw [List.length_set]; exact h.ok.w1, w4 := by show (D.wk.set i o).length <= 4; rw [List.length_set]; exact h.ok.w4, wj := fun a b hab => ?_ }
  have hab2 : (D.wk.set i o)[a]? = some (some b) := hab
  by_cases e : i = a
  ·subst e
   by_cases hi : i < D.wk.length
   ·rw [List.getElem?_set_self hi] at hab2
    injection hab2 with hab2
    exact ho b hab2
   ·rw [List.getElem?_eq_none (by rw [List.length_set]; omega)] at hab2; cases hab2
  ·rw [List.getElem?_set_ne e] at hab2
   exact h.ok.wj a b hab2
structure DisI (D : Dk) (k : Nat) (wk : List (Option Nat)) : Prop where
 len : wk.length = D.wk.length
 lo : ∀ i, i < k -> wk[i]? = (D.wk[i]?).map (dismW D.rs)
 hi : ∀ i, k <= i -> wk[i]? = D.wk[i]?
theorem DisI.next {D : Dk} {k : Nat} {wk : List (Option Nat)} (h : DisI D k wk) {o : Option Nat} (ho : D.wk[k]? = some o) : DisI D (k + 1) (wk.set k (dismW D.rs o)) := by
 have hk : k < wk.length := by rw [h.len]; exact (List.getElem?_eq_some_iff.1 ho).1
 refine ⟨by rw [List.length_set]; exact h.len, fun i hi => ?_, fun i hi => ?_⟩
 ·by_cases e : k = i
  ·subst e; rw [List.getElem?_set_self hk, ho]; rfl
  ·rw [List.getElem?_set_ne e]; exact h.lo i (by omega)
 ·rw [List.getElem?_set_ne (by omega)]; exact h.hi i (by omega)
theorem DisI.same {D : Dk} {k : Nat} {wk : List (Option Nat)} (h : DisI D k wk) {o : Option Nat} (ho : D.wk[k]? = some o) (hd : dismW D.rs o = o) : DisI D (k + 1) wk := by
 refine ⟨h.len, fun i hi => ?_, fun i hi => h.hi i (by omega)⟩
 by_cases e : k = i
 ·subst e; rw [h.hi k (Nat.le_refl _), ho]; show some o = some (dismW D.rs o); rw [hd]
 ·exact h.lo i (by omega)
theorem DisI.all {D : Dk} {k : Nat} {wk : List (Option Nat)} (h : DisI D k wk) (hk : D.wk.length <= k) : wk = D.wk.map (dismW D.rs) := by
 apply List.ext_getElem?
 intro i
 rw [List.getElem?_map]
 by_cases hi : i < k
 ·exact h.lo i hi
 ·rw [h.hi i (by omega), List.getElem?_eq_none (by omega)]; rfl
structure DisA (xs : List ByteArray) (mr : Nat) (R : Nat -> Prop) (db : Nat) (Q : Nat -> Prop) (D : Dk) (tv : Value) (wb : Nat) (ls : List Rl) (w : World) (k : Nat) (wr : World) : Prop where
 fr : Frm (fun j => j = wb) w wr
 sz : wr.heap.size = w.heap.size
 ex : ∃ wk, DisI D k wk /\ DkAt xs mr R db Q { D with wk := wk } tv wb ls wr
theorem dkDismiss_d {xs : List ByteArray} {mr : Nat} {R : Nat -> Prop} {db : Nat} {Q : Nat -> Prop} {D : Dk} {tv : Value} {wb : Nat} {ls : List Rl} {w : World} (h : DkAt xs mr R db Q D tv wb ls w) (u : FrameMode) :
  CallsD Tryz.prog 110 #[.pointer (some ⟨db, 0, none⟩)] u w fun e u' w' => u' = u /\ (e = .returned (.tuple #[]) /\ Frm (fun k => k = wb) w w' /\ w'.heap.size = w.heap.size /\ DkAt xs mr R db Q (dismissD D) tv wb ls w') := by
 have d3 := row_cell h.blk (j := 3) rfl
 have HA0 : Hid (DisA xs mr R db Q D tv wb ls w 0 w) := ⟨Frm.refl _ _, rfl, D.wk, ⟨rfl, fun i hi => by omega, fun _ _ => rfl⟩, h⟩
 have h4 := h.ok.w4
 have HJ : Hid (∀ i j : Nat, D.wk[i]? = some (some j) -> j < D.rs.length) := h.ok.wj
 obtain ⟨N, hN⟩ : ∃ N, D.wk.length = N := ⟨_, rfl⟩
 have HN : Hid (D.wk.length = N) := hN
 rw [hN] at d3 h4
 clear h hN
 go_enter_d Tryz.func110, Tryz.ntmps110
 go_wp2
 go_loopw [9] (fun i wr => ∃ k : Nat, k <= N /\ i = .int .i64 k /\ DisA xs mr R db Q D tv wb ls w k wr) (fun i _ => N - (intOf i).toNat)
 case atStart => exact ⟨0, Nat.zero_le _, rfl, HA0.out⟩
 case round =>
  obtain ⟨k, hk, rfl, hA⟩ := hrel
  have HA : Hid (DisA xs mr R db Q D tv wb ls w k wr) := hA
  obtain ⟨wk, hI, hD⟩ := hA.ex
  have HI : Hid (DisI D k wk) := hI
  have HD : Hid (DkAt xs mr R db Q { D with wk := wk } tv wb ls wr) := hD
  clear hA hI hD HA0 d3
  by_cases hlt : k < N
  ·obtain ⟨o, ho⟩ : ∃ o, D.wk[k]? = some o := ⟨_, List.getElem?_eq_getElem (by have := HN.out; omega)⟩
   have hwo : wk[k]? = some o := (HI.out.hi k (Nat.le_refl _)).trans ho
   have hce := row_cell HD.out.wrow (j := k) (u := wkV ls o) (by rw [List.getElem?_map]; show (wk[k]?).map _ = _; rw [hwo]; rfl)
   have hdc0 := row_cell HD.out.blk (j := 3) rfl
   have hlw : wk.length = N := by rw [HI.out.len]; exact HN.out
   have hdc : wr.cell? ⟨db, 3, none⟩ = some (.slice (some ⟨wb, 0, none⟩) N N) := by rw [← hlw]; exact hdc0
   clear hdc0
   cases o with
   | none =>
    have HX : Hid (DisA xs mr R db Q D tv wb ls w (k + 1) wr) := ⟨HA.out.fr, HA.out.sz, wk, HI.out.same ho rfl, HD.out⟩
    have hce2 : wr.cell? ⟨wb, k, none⟩ = some (.pointer none) := hce
    clear hce ho hwo HA HI HD HJ hlw
    go_wp2
    go_roundw
    case rel => exact ⟨k + 1, by omega, by go_num, HX.out⟩
    case measure => simp [intOf]; omega
   | some j =>
    have hj := HJ.out k j ho
    obtain ⟨l, r, hl, hr, hR⟩ := HD.out.get (i := j) hj
    have hce2 : wr.cell? ⟨wb, k, none⟩ = some (.pointer (some ⟨l.rb, 0, none⟩)) := by
     rw [hce]; show some (wkV ls (some j)) = _; rw [wkV_some, hl]; rfl
    clear hce
    have HEN : Hid (Calls Tryz.prog 114 #[.pointer (some ⟨l.rb, 0, none⟩)] wr fun e w' => e = .returned (.bool (!r.tk.isSome)) /\ w' = wr) := rqEnded_any hR
    have hr2 : D.rs[j]? = some r := hr
    cases ht : r.tk with
    | some t =>
     rw [ht] at HEN
     have HX : Hid (DisA xs mr R db Q D tv wb ls w (k + 1) wr) := by
      refine ⟨HA.out.fr, HA.out.sz, wk, HI.out.same ho ?_, HD.out⟩
      unfold dismW
      show (if liveJ D.rs j = true then some j else none) = _
      rw [if_pos]
      unfold liveJ; rw [hr2]; show r.tk.isSome = true; rw [ht]; rfl
     clear ho hwo HA HI HD HJ hlw hR hl hr hr2 ht
     go_wp2_with (go_at_call 114; refine HEN.out.mono ?_; rintro e w1 ⟨rfl, hw1⟩; subst w1)
     go_roundw
     case rel => exact ⟨k + 1, by omega, by go_num, HX.out⟩
     case measure => simp [intOf]; omega
    | none =>
     rw [ht] at HEN
     have hfz := row_frozen HD.out.wrow k
     have HX : Hid (DisA xs mr R db Q D tv wb ls w (k + 1) (wr.setCell ⟨wb, k, none⟩ (.pointer none))) := by
      have hd : dismW D.rs (some j) = none := by
       unfold dismW
       show (if liveJ D.rs j = true then some j else none) = _
       rw [if_neg]
       unfold liveJ; rw [hr2]; show ¬ r.tk.isSome = true; rw [ht]; decide
      have h1 := HI.out.next ho
      rw [hd] at h1
      exact ⟨HA.out.fr.trans (frm_set _ _ _ _) fun _ _ e => e, by rw [setSz]; exact HA.out.sz, _, h1, HD.out.setW k none (fun j e => by cases e)⟩
     clear ho hwo HA HI HD HJ hlw hR hl hr hr2 ht
     go_wp2_with (go_at_call 114; refine HEN.out.mono ?_; rintro e w1 ⟨rfl, hw1⟩; subst w1)
     go_roundw
     case rel => exact ⟨k + 1, by omega, by go_num, HX.out⟩
     case measure => simp [intOf]; omega
  ·obtain rfl : k = N := by omega
   have HF : Hid (Frm (fun j => j = wb) w wr /\ wr.heap.size = w.heap.size /\ DkAt xs mr R db Q (dismissD D) tv wb ls wr) := by
    refine ⟨HA.out.fr, HA.out.sz, ?_⟩
    have e := HI.out.all (by have := HN.out; omega)
    unfold dismissD
    rw [← e]; exact HD.out
   clear HA HI HD HJ
   go_wp2
   go_end0
   exact ⟨rfl, HF.out⟩
theorem nod_beq (a b : Nod) : ((a.k.toList == b.k.toList) && (a.n.toList == b.n.toList) && (a.r.toList == b.r.toList)) = decide (a = b) := by
 have e1 : ∀ x y : ByteArray, (x.toList == y.toList) = decide (x = y) := fun x y => byte_eq x y
 rw [e1, e1, e1]
 obtain ⟨a1, a2, a3⟩ := a
 obtain ⟨b1, b2, b3⟩ := b
 by_cases h1 : a1 = b1
 ·by_cases h2 : a2 = b2
  ·by_cases h3 : a3 = b3
   ·subst h1 h2 h3; simp
   ·simp [h3]
  ·simp [h2]
 ·simp [h1]
theorem dkPred_any {xs : List ByteArray} {mr : Nat} {R : Nat -> Prop} {db : Nat} {Q : Nat -> Prop} {D : Dk} {tv : Value} {wb : Nat} {ls : List Rl} {w : World} (h : DkAt xs mr R db Q D tv wb ls w) (hW : DkW D) {i : Nat} {o : Option Nat} (ho : D.wk[i]? = some o) {nb : Nat} {x : Nod} (hb : w.heap[nb]? = some (.cells [.string x.k, .string x.n, .string x.r].toArray 75 (0, 0))) :
  Calls Tryz.prog 198 #[wkV ls o, .pointer (some ⟨nb, 0, none⟩)] w fun e w' => e = .returned (.bool (decide (nodeW D.rs o = some x))) /\ Below w.heap.size w w' := by
 have n0 := row_cell hb (j := 0) rfl
 have n1 := row_cell hb (j := 1) rfl
 have n2 := row_cell hb (j := 2) rfl
 cases o with
 | none =>
  show Calls Tryz.prog 198 #[.pointer none, .pointer (some ⟨nb, 0, none⟩)] w _
  have e : decide (nodeW D.rs none = some x) = false := rfl
  rw [e]
  clear h hb
  go_enter Tryz.func198, Tryz.ntmps198
  go_wp2
  go_region
  all_goals go_wp2
  all_goals go_ret
  all_goals exact ⟨rfl, by repeat (first | exact Below.refl _ _ | refine Below.setCell ?_ (by first | exact Nat.le_refl _ | (simp; done) | (simp; omega)) _ | refine below_drewN ?_ _ | refine Below.drew ?_ | refine Below.alloc ?_ (by first | exact Nat.le_refl _ | (simp; done) | (simp; omega)) _)⟩
 | some j =>
  have hj := h.ok.wj i j ho
  obtain ⟨l, r, hl, hr, hR⟩ := h.get hj
  have e1 : wkV ls (some j) = .pointer (some ⟨l.rb, 0, none⟩) := by rw [wkV_some, hl]; rfl
  rw [e1]
  obtain ⟨t, ht⟩ : ∃ t, r.tk = some t := by
   cases e : r.tk with
   | none => exact absurd e (hW i j r ho hr)
   | some t => exact ⟨t, rfl⟩
  obtain ⟨kb, wkb, O, met, htp, -, -, -, hT⟩ := hR.tk t ht
  have c4 := row_cell hR.blk (j := 4) rfl
  rw [htp] at c4
  have k0 := row_cell hT.blk (j := 0) rfl
  have k1 := row_cell hT.blk (j := 1) rfl
  have k2 := row_cell hT.blk (j := 2) rfl
  have e2 : decide (nodeW D.rs (some j) = some x) = ((t.x.k.toList == x.k.toList) && (t.x.n.toList == x.n.toList) && (t.x.r.toList == x.r.toList)) := by
   rw [nod_beq]
   unfold nodeW
   show decide ((D.rs[j]?.bind fun r => r.tk.map Tk.x) = some x) = _
   rw [hr]
   show decide (r.tk.map Tk.x = some x) = _
   rw [ht]
   simp
  rw [e2]
  generalize t.x = y at *
  generalize l.rb = rb at *
  clear h hb hR hT ht hl hr e1 e2 htp ho hj hW
  have b1 : ∀ a b : ByteArray, a.toList = b.toList -> (a.toList == b.toList) = true := fun a b e => by rw [e]; simp
  have b2 : ∀ a b : ByteArray, ¬ a.toList = b.toList -> (a.toList == b.toList) = false := fun a b e => by simpa using e
  by_cases a1 : y.k.toList = x.k.toList
  ·by_cases a2 : y.n.toList = x.n.toList
   ·by_cases a3 : y.r.toList = x.r.toList
    ·rw [b1 _ _ a1, b1 _ _ a2, b1 _ _ a3]
     clear b1 b2
     go_enter Tryz.func198, Tryz.ntmps198
     go_wp2
     go_region
     all_goals go_wp2
     all_goals go_ret
     all_goals exact ⟨rfl, by repeat (first | exact Below.refl _ _ | refine Below.setCell ?_ (by first | exact Nat.le_refl _ | (simp; done) | (simp; omega)) _ | refine below_drewN ?_ _ | refine Below.drew ?_ | refine Below.alloc ?_ (by first | exact Nat.le_refl _ | (simp; done) | (simp; omega)) _)⟩
    ·rw [b1 _ _ a1, b1 _ _ a2, b2 _ _ a3]
     clear b1 b2
     go_enter Tryz.func198, Tryz.ntmps198
     go_wp2
     go_region
     all_goals go_wp2
     all_goals go_ret
     all_goals exact ⟨rfl, by repeat (first | exact Below.refl _ _ | refine Below.setCell ?_ (by first | exact Nat.le_refl _ | (simp; done) | (simp; omega)) _ | refine below_drewN ?_ _ | refine Below.drew ?_ | refine Below.alloc ?_ (by first | exact Nat.le_refl _ | (simp; done) | (simp; omega)) _)⟩
   ·rw [b1 _ _ a1, b2 _ _ a2]
    clear b1 b2
    go_enter Tryz.func198, Tryz.ntmps198
    go_wp2
    go_region
    all_goals go_wp2
    all_goals go_ret
    all_goals exact ⟨rfl, by repeat (first | exact Below.refl _ _ | refine Below.setCell ?_ (by first | exact Nat.le_refl _ | (simp; done) | (simp; omega)) _ | refine below_drewN ?_ _ | refine Below.drew ?_ | refine Below.alloc ?_ (by first | exact Nat.le_refl _ | (simp; done) | (simp; omega)) _)⟩
  ·rw [b2 _ _ a1]
   clear b1 b2
   go_enter Tryz.func198, Tryz.ntmps198
   go_wp2
   go_region
   all_goals go_wp2
   all_goals go_ret
   all_goals exact ⟨rfl, by repeat (first | exact Below.refl _ _ | refine Below.setCell ?_ (by first | exact Nat.le_refl _ | (simp; done) | (simp; omega)) _ | refine below_drewN ?_ _ | refine Below.drew ?_ | refine Below.alloc ?_ (by first | exact Nat.le_refl _ | (simp; done) | (simp; omega)) _)⟩
theorem busy_yes {D : Dk} {x : Nod} {k : Nat} {o : Option Nat} (ho : D.wk[k]? = some o) (h : decide (nodeW D.rs o = some x) = true) : busyN D x = true := by
 unfold busyN
 exact List.any_eq_true.2 ⟨o, List.mem_of_getElem? ho, h⟩
theorem busy_no {D : Dk} {x : Nod} (h : ∀ (j : Nat) (o : Option Nat), D.wk[j]? = some o -> decide (nodeW D.rs o = some x) = false) : busyN D x = false := by
 unfold busyN
 refine List.any_eq_false.2 fun o ho => ?_
 obtain ⟨j, hj⟩ := List.mem_iff_getElem?.1 ho
 rw [h j o hj]; decide
theorem dkIdx_any {xs : List ByteArray} {mr : Nat} {R : Nat -> Prop} {db : Nat} {Q : Nat -> Prop} {D : Dk} {tv : Value} {wb : Nat} {ls : List Rl} {w : World} (h : DkAt xs mr R db Q D tv wb ls w) (hW : DkW D) {nb : Nat} {x : Nod} (hb : w.heap[nb]? = some (.cells [.string x.k, .string x.n, .string x.r].toArray 75 (0, 0))) :
  Calls Tryz.prog 219 #[.slice (some ⟨wb, 0, none⟩) D.wk.length D.wk.length, .func (.func 198) #[] #[.pointer (some ⟨nb, 0, none⟩)]] w fun e w' => ∃ z : Int, e = .returned (.int .i64 z) /\ decide (0 <= z) = busyN D x /\ Below w.heap.size w w' := by
 have HP : Hid (∀ (i : Nat) (o : Option Nat) (w1 : World), D.wk[i]? = some o -> Below w.heap.size w w1 -> Calls Tryz.prog 198 #[wkV ls o, .pointer (some ⟨nb, 0, none⟩)] w1 fun e w' => e = .returned (.bool (decide (nodeW D.rs o = some x))) /\ Below w.heap.size w w') := by
  intro i o w1 ho hb1
  refine (dkPred_any (h.below hb1) hW ho ((hb1.block _ (row_lt hb)).trans hb)).mono ?_
  rintro e w' ⟨he, hb'⟩
  exact ⟨he, hb1.trans (hb'.mono hb1.size)⟩
 have HR : Hid (∀ (i : Nat) (o : Option Nat) (w1 : World), D.wk[i]? = some o -> Below w.heap.size w w1 -> w1.cell? ⟨wb, i, none⟩ = some (wkV ls o)) := by
  intro i o w1 ho hb1
  exact row_cell ((hb1.block _ (row_lt h.wrow)).trans h.wrow) (by rw [List.getElem?_map, ho]; rfl)
 have h4 := h.ok.w4
 obtain ⟨N, hN⟩ : ∃ N, D.wk.length = N := ⟨_, rfl⟩
 have HN : Hid (D.wk.length = N) := hN
 rw [hN] at h4 ⊢
 clear h hb hW hN
 go_enter Tryz.func219, Tryz.ntmps219
 go_wp2
 go_loopw [8] (fun i wr => ∃ k : Nat, k <= N /\ i = .int .i64 k /\ Below w.heap.size w wr /\ ∀ (j : Nat) (o : Option Nat), j < k -> D.wk[j]? = some o -> decide (nodeW D.rs o = some x) = false) (fun i _ => N - (intOf i).toNat)
 case atStart => exact ⟨0, Nat.zero_le _, rfl, Below.refl _ _, fun j o hj => by omega⟩
 case round =>
  obtain ⟨k, hk, rfl, hB, hA⟩ := hrel
  have HB : Hid (Below w.heap.size w wr) := hB
  have HA : Hid (∀ (j : Nat) (o : Option Nat), j < k -> D.wk[j]? = some o -> decide (nodeW D.rs o = some x) = false) := hA
  clear hB hA
  by_cases hlt : k < N
  ·obtain ⟨o, ho⟩ : ∃ o, D.wk[k]? = some o := ⟨_, List.getElem?_eq_getElem (by have := HN.out; omega)⟩
   have hce := HR.out k o wr ho HB.out
   have HPC : Hid (Calls Tryz.prog 198 #[wkV ls o, .pointer (some ⟨nb, 0, none⟩)] wr fun e w' => e = .returned (.bool (decide (nodeW D.rs o = some x))) /\ Below w.heap.size w w') := HP.out k o wr ho HB.out
   have HO : Hid (D.wk[k]? = some o) := ho
   obtain ⟨p, hp⟩ : ∃ p, wkV ls o = .pointer p := by
    cases o with
    | none => exact ⟨none, rfl⟩
    | some j =>
     rw [wkV_some]
     cases ls[j]? with
     | none => exact ⟨none, rfl⟩
     | some l => exact ⟨_, rfl⟩
   rw [hp] at hce HPC
   clear ho hp HR HP HB
   cases hd : decide (nodeW D.rs o = some x) with
   | true =>
    rw [hd] at HPC
    have HF : Hid (busyN D x = true) := busy_yes HO.out hd
    clear hd HO
    go_wp2_with (go_at_call 198; refine HPC.out.mono ?_; rintro e w1 ⟨rfl, hb1⟩)
    go_ret
    exact ⟨_, rfl, by rw [HF.out]; exact decide_eq_true (by omega), hb1⟩
   | false =>
    rw [hd] at HPC
    have HF : Hid (decide (nodeW D.rs o = some x) = false) := hd
    clear hd
    go_wp2_with (go_at_call 198; refine HPC.out.mono ?_; rintro e w1 ⟨rfl, hb1⟩)
    go_roundw
    case rel =>
     refine ⟨k + 1, by omega, by go_num, hb1, fun j o' hj ho' => ?_⟩
     by_cases e : j = k
     ·subst e
      have := HO.out
      rw [ho'] at this
      injection this with this
      rw [this]; exact HF.out
     ·exact HA.out j o' (by omega) ho'
    case measure => simp [intOf]; omega
  ·obtain rfl : k = N := by omega
   have HF : Hid (busyN D x = false) := busy_no fun j o ho => HA.out j o (by have := (List.getElem?_eq_some_iff.1 ho).1; have := HN.out; omega) ho
   clear HA HR HP
   go_wp2
   go_ret
   exact ⟨_, rfl, by rw [HF.out]; decide, HB.out⟩
theorem dkBusy_any {xs : List ByteArray} {mr : Nat} {R : Nat -> Prop} {db : Nat} {Q : Nat -> Prop} {D : Dk} {tv : Value} {wb : Nat} {ls : List Rl} {w : World} (h : DkAt xs mr R db Q D tv wb ls w) (hW : DkW D) (x : Nod) :
  Calls Tryz.prog 163 #[.pointer (some ⟨db, 0, none⟩), .agg #[.string x.k, .string x.n, .string x.r]] w fun e w' => e = .returned (.bool (busyN D x)) /\ Below w.heap.size w w' := by
 have d3 := row_cell h.blk (j := 3) rfl
 have hlt := row_lt h.blk
 have hb1 : Below w.heap.size w (w.alloc (.cells #[.string x.k, .string x.n, .string x.r] 75)) := (Below.refl _ _).alloc (Nat.le_refl _) _
 have HI : Hid (Calls Tryz.prog 219 #[.slice (some ⟨wb, 0, none⟩) D.wk.length D.wk.length, .func (.func 198) #[] #[.pointer (some ⟨w.heap.size, 0, none⟩)]] (w.alloc (.cells #[.string x.k, .string x.n, .string x.r] 75)) fun e w' => ∃ z : Int, e = .returned (.int .i64 z) /\ decide (0 <= z) = busyN D x /\ Below w.heap.size w w') := by
  refine (dkIdx_any (h.below hb1) hW (alloc_new w [.string x.k, .string x.n, .string x.r] _)).mono ?_
  rintro e w' ⟨z, he, hz, hb⟩
  exact ⟨z, he, hz, hb1.trans (hb.mono hb1.size)⟩
 have HC : Hid (Calls Tryz.prog 197 #[.slice (some ⟨wb, 0, none⟩) D.wk.length D.wk.length, .func (.func 198) #[] #[.pointer (some ⟨w.heap.size, 0, none⟩)]] (w.alloc (.cells #[.string x.k, .string x.n, .string x.r] 75)) fun e w' => e = .returned (.bool (busyN D x)) /\ Below w.heap.size w w') := by
  clear d3 hlt h hb1
  show Calls _ _ _ _ _
  generalize D.wk.length = N at *
  go_enter Tryz.func197, Tryz.ntmps197
  go_wp2_with (go_at_call 219; refine HI.out.mono ?_; rintro e w1 ⟨z, rfl, hz, hb⟩)
  go_ret
  exact ⟨rfl, hb⟩
 generalize D.wk.length = N at *
 clear h hb1 hW HI
 go_enter Tryz.func163, Tryz.ntmps163
 go_wp2_with (go_at_call 197; refine HC.out.mono ?_; rintro e w1 ⟨rfl, hb1⟩)
 go_ret
 exact ⟨rfl, hb1⟩
theorem RqAt.work {xs : List ByteArray} {mr rb : Nat} {P : Nat -> Prop} {r : Rq} {uv tp : Value} {w : World} (h : RqAt xs mr rb P r uv tp w) (hi : r.is = 1) (hr : RulesN (w.setCell ⟨rb, 0, none⟩ (.int .i64 2)) mr xs) : RqAt xs mr rb P { r with is := 2 } uv tp (w.setCell ⟨rb, 0, none⟩ (.int .i64 2)) := by
 have hf := frm_set w rb 0 (.int .i64 2)
 have hz := setSz w ⟨rb, 0, none⟩ (.int .i64 2)
 have hne : r.tk ≠ none := fun e => h.live.1 e (Or.inl hi)
 refine { h with blk := row_set h.blk 0 _, us := strT_to h.us fun k e => hf.block k (strT_own h.us k e).1 (h.uP k e).2, tk := fun t ht => ?_, live := ⟨fun e => absurd e hne, fun e => absurd (Or.inr rfl) e⟩, lt := fun k e => by rw [hz]; exact h.lt k e, is0 := by show (1 : Int) <= 2; decide, is9 := by show (2 : Int) <= 6; decide }
 obtain ⟨kb, wb, O, met, h1, h2, h3, h4, h5⟩ := h.tk t ht
 have hkb : kb ≠ rb := by
  intro e
  have q := h5.blk
  rw [e, h.blk] at q
  injection q with q
  injection q with _ q
  revert q; decide
 exact ⟨kb, wb, O, met, h1, h2, h3, h4, h5.keep hf.size (fun k e => hf.block k (h5.wk.lt k e) fun e2 => h4 (e2 ▸ e)) (hf.block kb (row_lt h5.blk) hkb) hr⟩
theorem modify_set {α : Type} {l : List α} {i : Nat} {a : α} (f : α -> α) (h : l[i]? = some a) : l.modify i f = l.set i (f a) := by
 apply List.ext_getElem?
 intro j
 have hi := (List.getElem?_eq_some_iff.1 h).1
 by_cases e : i = j
 ·subst e
  rw [List.getElem?_modify_eq, List.getElem?_set_self hi, h]; rfl
 ·rw [List.getElem?_set_ne e, List.getElem?_modify]; simp [e]
theorem DkAt.work {xs : List ByteArray} {mr : Nat} {R : Nat -> Prop} {db : Nat} {Q : Nat -> Prop} {D : Dk} {tv : Value} {wb : Nat} {ls : List Rl} {w : World} (h : DkAt xs mr R db Q D tv wb ls w) {j : Nat} {l : Rl} {r : Rq} (hl : ls[j]? = some l) (hr : D.rs[j]? = some r) (hi : r.is = 1) :
  DkAt xs mr R db Q { D with rs := D.rs.set j { r with is := 2 } } tv wb ls (w.setCell ⟨l.rb, 0, none⟩ (.int .i64 2)) := by
 have hR := h.at' j l r hl hr
 have hf := frm_set w l.rb 0 (.int .i64 2)
 have hz := setSz w ⟨l.rb, 0, none⟩ (.int .i64 2)
 have hfP : Frm l.P w (w.setCell ⟨l.rb, 0, none⟩ (.int .i64 2)) := hf.mono fun k _ e => e ▸ hR.rP
 have hm := List.mem_of_getElem? hl
 have hru : RulesN (w.setCell ⟨l.rb, 0, none⟩ (.int .i64 2)) mr xs := (h.ru.frm hfP fun k hk e => h.rq k hk (h.inQ l hm k e)).now
 have key := h.upd (l' := l) (r' := { r with is := 2 }) hl hr rfl hfP (fun k e => Or.inl e) (hR.work hi hru)
 have e : ls.set j l = ls := by
  apply List.ext_getElem?
  intro a
  by_cases e : j = a
  ·subst e; rw [List.getElem?_set_self (List.getElem?_eq_some_iff.1 hl).1, hl]
  ·rw [List.getElem?_set_ne e]
 rw [e] at key
 refine key.wide (fun k e => ?_) (fun k e => by rw [hz]; exact h.lt k e) h.rq
 rcases e with e | e
 ·exact e
 ·omega
theorem giveD_none {D : Dk} {i : Nat} (h : ∀ (k : Nat) (r : Rq), D.rs[k]? = some r -> mayR D r = false) : giveD D i = D := by
 unfold giveD
 have e : D.rs.findIdx? (mayR D) = none := by
  rw [List.findIdx?_eq_none_iff]
  intro r hr
  obtain ⟨k, hk⟩ := List.mem_iff_getElem?.1 hr
  exact h k r hk
 rw [e]
theorem giveD_some {D : Dk} {i j : Nat} {r : Rq} (hr : D.rs[j]? = some r) (hm : mayR D r = true) (h : ∀ (k : Nat) (r : Rq), k < j -> D.rs[k]? = some r -> mayR D r = false) : giveD D i = { D with rs := D.rs.set j { r with is := 2 }, wk := D.wk.set i (some j) } := by
 have hj := (List.getElem?_eq_some_iff.1 hr)
 have hj1 := hj.1
 have e : D.rs.findIdx? (mayR D) = some j := by
  rw [List.findIdx?_eq_some_iff_getElem]
  refine ⟨hj.1, by rw [hj.2]; exact hm, fun k hk => ?_⟩
  have := h k (D.rs[k]'(by omega)) hk (List.getElem?_eq_getElem (by omega))
  rw [this]; decide
 unfold giveD
 rw [e]
 show { D with rs := D.rs.modify j _, wk := _ } = _
 rw [modify_set _ hr]
theorem dkGive_any {xs : List ByteArray} {mr : Nat} {R : Nat -> Prop} {db : Nat} {Q : Nat -> Prop} {D : Dk} {tv : Value} {wb : Nat} {ls : List Rl} {w : World} (h : DkAt xs mr R db Q D tv wb ls w) (hW : DkW D) {i : Nat} (hi : i < D.wk.length) :
  Calls Tryz.prog 111 #[.pointer (some ⟨db, 0, none⟩), .int .i64 i] w fun e w' => e = .returned (.tuple #[]) /\ Frm Q w w' /\ DkAt xs mr R db Q (giveD D i) tv wb ls w' := by
 have d2 := row_cell h.blk (j := 2) rfl
 have HD : Hid (DkAt xs mr R db Q D tv wb ls w) := h
 have HBU : Hid (∀ w1 x, Below w.heap.size w w1 -> Calls Tryz.prog 163 #[.pointer (some ⟨db, 0, none⟩), .agg #[.string x.k, .string x.n, .string x.r]] w1 fun e w' => e = .returned (.bool (busyN D x)) /\ Below w.heap.size w w') := by
  intro w1 x hb1
  refine (dkBusy_any (h.below hb1) hW x).mono ?_
  rintro e w' ⟨he, hb⟩
  exact ⟨he, hb1.trans (hb.mono hb1.size)⟩
 have h30 := h.ok.rl
 have hi4 := h.ok.w4
 obtain ⟨N, hN⟩ : ∃ N, D.rs.length = N := ⟨_, rfl⟩
 have HN : Hid (D.rs.length = N) := hN
 obtain ⟨M, hM⟩ : ∃ M, D.wk.length = M := ⟨_, rfl⟩
 have HM : Hid (D.wk.length = M) := hM
 obtain ⟨tx, tc, htv⟩ := owns_form h.row
 rw [htv, h.len, hN] at d2
 have HTV : Hid (tv = .slice tx ls.length tc) := htv
 rw [hN] at h30
 rw [hM] at hi hi4
 clear h htv hN hW hM
 go_enter Tryz.func111, Tryz.ntmps111
 go_wp2
 go_loopw [11] (fun iv wr => ∃ k : Nat, k <= N /\ iv = .int .i64 k /\ Below w.heap.size w wr /\ ∀ (j : Nat) (r : Rq), j < k -> D.rs[j]? = some r -> mayR D r = false) (fun iv _ => N - (intOf iv).toNat)
 case atStart => exact ⟨0, Nat.zero_le _, rfl, Below.refl _ _, fun j o hj => by omega⟩
 case round =>
  obtain ⟨k, hk, rfl, hB, hA⟩ := hrel
  have HB : Hid (Below w.heap.size w wr) := hB
  have HA : Hid (∀ (j : Nat) (r : Rq), j < k -> D.rs[j]? = some r -> mayR D r = false) := hA
  clear hB hA
  by_cases hlt : k < N
  ·have hDr := HD.out.below HB.out
   obtain ⟨l, r, hl, hr, hR⟩ := hDr.get (i := k) (by have := HN.out; omega)
   obtain ⟨g, c, hg, hcell⟩ := hDr.cell hl
   rw [HTV.out] at hg
   injection hg with hg _ hcc
   subst hg
   subst hcc
   have HWT : Hid (Calls Tryz.prog 162 #[.pointer (some ⟨l.rb, 0, none⟩)] wr fun e w' => e = .returned (.bool (waitsR r)) /\ w' = wr) := rqWaits_any hR.blk
   have HRK : Hid (D.rs[k]? = some r) := hr
   cases hw : waitsR r with
   | false =>
    rw [hw] at HWT
    have HMA : Hid (mayR D r = false) := by unfold mayR; rw [hw]; rfl
    have HB1 : Hid (Below w.heap.size w wr) := HB.out
    clear hl hr hR hDr hw HB
    go_wp2_with (go_at_call 162; refine HWT.out.mono ?_; rintro e w1 ⟨rfl, hw1⟩; subst w1)
    go_roundw
    case rel =>
     refine ⟨k + 1, by omega, by go_num, HB1.out, fun j r' hj hr' => ?_⟩
     by_cases e : j = k
     ·subst e
      have := HRK.out
      rw [hr'] at this
      injection this with this
      rw [this]; exact HMA.out
     ·exact HA.out j r' (by omega) hr'
    case measure => simp [intOf]; omega
   | true =>
    rw [hw] at HWT
    have his : r.is = 1 := of_decide_eq_true hw
    obtain ⟨t, ht⟩ : ∃ t, r.tk = some t := by
     cases e : r.tk with
     | none => exact absurd (Or.inl his) (hR.live.1 e)
     | some t => exact ⟨t, rfl⟩
    obtain ⟨kb, wkb, O, met, htp, -, -, -, hT⟩ := hR.tk t ht
    have c4 := row_cell hR.blk (j := 4) rfl
    rw [htp] at c4
    have k0 := row_cell hT.blk (j := 0) rfl
    have k1 := row_cell hT.blk (j := 1) rfl
    have k2 := row_cell hT.blk (j := 2) rfl
    have hmay : mayR D r = !busyN D t.x := by unfold mayR; rw [hw, ht]; rfl
    have HBC : Hid (Calls Tryz.prog 163 #[.pointer (some ⟨db, 0, none⟩), .agg #[.string t.x.k, .string t.x.n, .string t.x.r]] wr fun e w' => e = .returned (.bool (busyN D t.x)) /\ Below w.heap.size w w') := HBU.out wr t.x HB.out
    cases hbz : busyN D t.x with
    | true =>
     rw [hbz] at HBC hmay
     have HMA : Hid (mayR D r = false) := hmay
     generalize t.x = x at *
     clear hl hr hR hDr hw HB hT ht htp his hbz hmay HBU
     go_wp2_with (first | (go_at_call 162; refine HWT.out.mono ?_; rintro e w1 ⟨rfl, hw1⟩; subst w1) | (go_at_call 163; refine HBC.out.mono ?_; rintro e w2 ⟨rfl, hb2⟩))
     go_roundw
     case rel =>
      refine ⟨k + 1, by omega, by go_num, hb2, fun j r' hj hr' => ?_⟩
      by_cases e : j = k
      ·subst e
       have := HRK.out
       rw [hr'] at this
       injection this with this
       rw [this]; exact HMA.out
      ·exact HA.out j r' (by omega) hr'
     case measure => simp [intOf]; omega
    | false =>
     rw [hbz] at HBC hmay
     have HG : Hid (∀ w2, Below w.heap.size w w2 -> w2.cell? ⟨l.rb, 0, none⟩ = some (.int .i64 r.is) /\ w2.frozen? ⟨l.rb, 0, none⟩ = false /\ (w2.setCell ⟨l.rb, 0, none⟩ (.int .i64 2)).cell? ⟨db, 3, none⟩ = some (.slice (some ⟨wb, 0, none⟩) M M) /\ (∃ v, (w2.setCell ⟨l.rb, 0, none⟩ (.int .i64 2)).cell? ⟨wb, i, none⟩ = some v) /\ (w2.setCell ⟨l.rb, 0, none⟩ (.int .i64 2)).frozen? ⟨wb, i, none⟩ = false /\ Hid (Frm Q w ((w2.setCell ⟨l.rb, 0, none⟩ (.int .i64 2)).setCell ⟨wb, i, none⟩ (.pointer (some ⟨l.rb, 0, none⟩))) /\ DkAt xs mr R db Q (giveD D i) tv wb ls ((w2.setCell ⟨l.rb, 0, none⟩ (.int .i64 2)).setCell ⟨wb, i, none⟩ (.pointer (some ⟨l.rb, 0, none⟩))))) := by
      intro w2 hb2
      have hD2 := HD.out.below hb2
      have hR2 := hD2.at' k l r hl hr
      have hD3 := hD2.work hl hr his
      have hD4 := hD3.setW i (some k) (fun j e => by injection e with e; rw [← e]; show k < (D.rs.set k _).length; rw [List.length_set]; have := HN.out; omega)
      have hm := List.mem_of_getElem? hl
      have ew : wkV ls (some k) = .pointer (some ⟨l.rb, 0, none⟩) := by rw [wkV_some, hl]; rfl
      rw [ew] at hD4
      have d3 := row_cell hD3.blk (j := 3) rfl
      have hd3 : (w2.setCell ⟨l.rb, 0, none⟩ (.int .i64 2)).cell? ⟨db, 3, none⟩ = some (.slice (some ⟨wb, 0, none⟩) M M) := by rw [← HM.out]; exact d3
      refine ⟨row_cell hR2.blk (j := 0) rfl, row_frozen hR2.blk 0, hd3, ⟨_, row_cell hD3.wrow (j := i) (by rw [List.getElem?_map]; show (D.wk[i]?).map _ = _; rw [List.getElem?_eq_getElem (by have := HM.out; omega)]; rfl)⟩, row_frozen hD3.wrow i, ?_, ?_⟩
      ·refine ((Frm.of_below hb2).trans (frm_set _ _ _ _) fun j _ e => ?_).trans (frm_set _ _ _ _) fun j _ e => ?_
       ·rw [e]; exact hD2.inQ l hm _ hR2.rP
       ·rw [e]; exact hD2.wQ
      ·rw [giveD_some HRK.out hmay HA.out]
       exact hD4
     generalize t.x = x at *
     generalize l.rb = rb at *
     clear hl hr hR hDr hw HB hT ht htp hbz hmay HBU HA HRK
     go_wp2_with (first | (go_at_call 162; refine HWT.out.mono ?_; rintro e w1 ⟨rfl, hw1⟩; subst w1) | (go_at_call 163; refine HBC.out.mono ?_; rintro e w2 ⟨rfl, hb2⟩; obtain ⟨g1, g2, g3, ⟨gv, g4⟩, g5, HF⟩ := HG.out w2 hb2; clear HG hb2))
     exact bodyPost_ret (v := .tuple #[]) (by simp [results, Tryz.results111, go_sem]) rfl ⟨rfl, HF.out⟩
  ·obtain rfl : k = N := by omega
   have HF : Hid (Frm Q w wr /\ DkAt xs mr R db Q (giveD D i) tv wb ls wr) := by
    refine ⟨Frm.of_below HB.out, ?_⟩
    rw [giveD_none fun j r hr => HA.out j r (by have := (List.getElem?_eq_some_iff.1 hr).1; have := HN.out; omega) hr]
    exact HD.out.below HB.out
   clear HA HBU HB HD HTV
   go_wp2
   go_end0
   exact ⟨rfl, HF.out⟩
theorem RqAt.toEnd {xs : List ByteArray} {mr rb : Nat} {P : Nat -> Prop} {r : Rq} {uv tp : Value} {w w' : World} (h : RqAt xs mr rb P r uv tp w) {k : Int} (h3 : 3 <= k) (h6 : k <= 6) (hb : w'.heap[rb]? = some (.cells (rqL (r.ended k) uv (.pointer none)).toArray 161 (0, 0))) (hf : Frm (fun j => j = rb) w w') : RqAt xs mr rb P (r.ended k) uv (.pointer none) w' :=
 ⟨hb, strT_to h.us (fun j e => hf.block j (strT_own h.us j e).1 (h.uP j e).2), h.uP, fun _ => rfl, (fun t ht => by cases ht), ⟨fun _ => by show ¬ (k = 1 \/ k = 2); omega, fun _ => rfl⟩, fun hne => absurd rfl hne, h.rP, fun j e => Nat.lt_of_lt_of_le (h.lt j e) hf.size, h.sl, h.ul, by show 1 <= k; omega, by show k <= 6; omega⟩
theorem rqLate_any {xs : List ByteArray} {mr rb : Nat} {P : Nat -> Prop} {r : Rq} {uv tp : Value} {w : World} (h : RqAt xs mr rb P r uv tp w) (clock : Int) :
  Calls Tryz.prog 108 #[.pointer (some ⟨rb, 0, none⟩), .int .i64 clock] w fun e w' => e = .returned (.tuple #[]) /\ Frm (fun j => j = rb) w w' /\ w'.heap.size = w.heap.size /\ ∃ tp', RqAt xs mr rb P (lateR clock r) uv tp' w' := by
 have HE : Hid (Calls Tryz.prog 114 #[.pointer (some ⟨rb, 0, none⟩)] w fun e w' => e = .returned (.bool (!r.tk.isSome)) /\ w' = w) := rqEnded_any h
 have HD : Hid (Calls Tryz.prog 115 #[.pointer (some ⟨rb, 0, none⟩), .int .i64 5] w _) := rqEnd_any h.blk 5
 have HR : Hid (RqAt xs mr rb P r uv tp w) := h
 cases ht : r.tk with
 | none =>
  rw [ht] at HE
  rw [lateR_none ht]
  clear h HD ht
  go_enter Tryz.func108, Tryz.ntmps108
  go_wp2_with (go_at_call 114; refine HE.out.mono ?_; rintro e w1 ⟨rfl, hw1⟩; subst w1)
  go_end0
  exact ⟨rfl, Frm.refl _ _, rfl, tp, HR.out⟩
 | some t =>
  obtain ⟨kb, wb, O, met, rfl, -, -, -, hT⟩ := h.tk t ht
  have c4 := row_cell h.blk (j := 4) rfl
  have k8 := row_cell hT.blk (j := 8) rfl
  rw [ht] at HE
  by_cases hl : t.til <= clock
  ·rw [lateR_yes ht hl]
   have hle : decide (t.til <= clock) = true := decide_eq_true hl
   have HL : Hid (∀ w', w'.heap[rb]? = some (.cells (rqL (r.ended 5) uv (.pointer none)).toArray 161 (0, 0)) -> Frm (fun j => j = rb) w w' -> RqAt xs mr rb P (r.ended 5) uv (.pointer none) w') := fun w' hb hf => h.toEnd (by decide) (by decide) hb hf
   generalize t.til = til at *
   clear h hT ht
   go_enter Tryz.func108, Tryz.ntmps108
   go_wp2_with (first | (go_at_call 114; refine HE.out.mono ?_; rintro e w1 ⟨rfl, hw1⟩; subst w1) | (go_at_call 115; refine HD.out.mono ?_; rintro e w2 ⟨rfl, hb2, hf2, hz2⟩; have HF : Hid (w2.heap[rb]? = some (.cells (rqL (r.ended 5) uv (.pointer none)).toArray 161 (0, 0)) /\ Frm (fun j => j = rb) w w2 /\ w2.heap.size = w.heap.size) := ⟨hb2, hf2, hz2⟩; clear hb2 hf2 hz2))
   go_end0
   exact ⟨rfl, HF.out.2.1, HF.out.2.2, _, HL.out _ HF.out.1 HF.out.2.1⟩
  ·rw [lateR_not ht hl]
   have hle : decide (t.til <= clock) = false := decide_eq_false hl
   generalize t.til = til at *
   clear h hT ht HD
   go_enter Tryz.func108, Tryz.ntmps108
   go_wp2_with (go_at_call 114; refine HE.out.mono ?_; rintro e w1 ⟨rfl, hw1⟩; subst w1)
   go_end0
   exact ⟨rfl, Frm.refl _ _, rfl, _, HR.out⟩
def AnsP (xs : List ByteArray) (t : Tk) (r : Rq) (uv : Value) (rb : Nat) (O : Nat -> Prop) (w w' : World) : Prop :=
 ∃ al us uv', AnsR xs t al us /\ us.length <= 50 /\ w'.heap[rb]? = some (.cells (rqL ⟨3, r.st, al, us, none⟩ uv' (.pointer none)).toArray 161 (0, 0)) /\ Frm (fun j => O j \/ j = rb) w w' /\ ((uv' = uv /\ us = []) \/ (StrT w' uv' us /\ ∀ k, uv'.ownBlock = some k -> w.heap.size <= k))
theorem ans_end {xs : List ByteArray} {t : Tk} {r : Rq} {uv tp : Value} {rb : Nat} {O : Nat -> Prop} {w w2 : World} (hf : Frm O w w2) (hlt : rb < w.heap.size) {al : Bool} {us : List ByteArray} {uv' : Value} (ha : AnsR xs t al us) (hl : us.length <= 50) (hu : (uv' = uv /\ us = []) \/ (StrT w2 uv' us /\ ∀ k, uv'.ownBlock = some k -> w.heap.size <= k)) {w3 : World} (hb3 : w3.heap[rb]? = some (.cells (rqL { r with al := al, us := us } uv' tp).toArray 161 (0, 0))) (hf3 : Frm (fun j => j = rb) w2 w3) :
  Calls Tryz.prog 115 #[.pointer (some ⟨rb, 0, none⟩), .int .i64 3] w3 fun e w' => e = .returned (.tuple #[]) /\ AnsP xs t r uv rb O w w' := by
 refine (rqEnd_any hb3 3).mono ?_
 rintro e w4 ⟨rfl, hb4, hf4, -⟩
 have hf24 : Frm (fun j => j = rb) w2 w4 := hf3.trans hf4 fun _ _ e => e
 refine ⟨rfl, al, us, uv', ha, hl, hb4, (hf.mono fun _ _ e => Or.inl e).trans hf24 fun j _ e => Or.inr e, ?_⟩
 rcases hu with e | ⟨h1, h2⟩
 ·exact Or.inl e
 ·refine Or.inr ⟨strT_to h1 fun k hk => hf24.block k (strT_own h1 k hk).1 fun e => ?_, h2⟩
  have := h2 k hk
  rw [e] at this; omega
theorem rqAnswer_any (HW : Hid TWayC) {xs : List ByteArray} {mr rb kb wb : Nat} {r : Rq} {t : Tk} {uv : Value} {O : Nat -> Prop} {met : List Nod} {gone : Nat} {w : World} (hb : w.heap[rb]? = some (.cells (rqL r uv (.pointer (some ⟨kb, 0, none⟩))).toArray 161 (0, 0))) (hk : w.heap[kb]? = some (.cells (tkL t wb).toArray 115 (0, 0))) (wk : WkAt xs t.now t.x mr O wb met gone w) (nr : ¬ O rb) (sy : t.y.k.size + 1 + t.y.n.size <= maxLen) (al0 : r.al = false) (us0 : r.us = []) :
  Calls Tryz.prog 164 #[.pointer (some ⟨rb, 0, none⟩)] w fun e w' => e = .returned (.tuple #[]) /\ AnsP xs t r uv rb O w w' := by
 have hlt := row_lt hb
 have HIC : Hid (∀ w1, Calls Tryz.prog 46 #[.agg #[.string t.x.k, .string t.x.n, .string t.x.r, .string t.y.k, .string t.y.n, .string t.y.r]] w1 fun e w' => e = .returned (.bool t.chk) /\ Below w1.heap.size w1 w') := fun w1 => isCheck_any _ _ _ _ _ _ w1
 have HC : Hid (∀ w1, Below w.heap.size w w1 -> w1.cell? ⟨rb, 4, none⟩ = some (.pointer (some ⟨kb, 0, none⟩)) /\ w1.cell? ⟨kb, 6, none⟩ = some (.pointer (some ⟨wb, 0, none⟩)) /\ w1.cell? ⟨kb, 3, none⟩ = some (.string t.y.k) /\ w1.cell? ⟨kb, 4, none⟩ = some (.string t.y.n) /\ w1.cell? ⟨kb, 5, none⟩ = some (.string t.y.r)) := by
  intro w1 hb1
  have h1 := (hb1.block _ hlt).trans hb
  have h2 := (hb1.block _ (row_lt hk)).trans hk
  exact ⟨row_cell h1 (j := 4) rfl, row_cell h2 (j := 6) rfl, row_cell h2 (j := 3) rfl, row_cell h2 (j := 4) rfl, row_cell h2 (j := 5) rfl⟩
 have c4 := row_cell hb (j := 4) rfl
 have q0 := row_cell hk (j := 0) rfl
 have q1 := row_cell hk (j := 1) rfl
 have q2 := row_cell hk (j := 2) rfl
 have q3 := row_cell hk (j := 3) rfl
 have q4 := row_cell hk (j := 4) rfl
 have q5 := row_cell hk (j := 5) rfl
 cases hc : t.chk with
 | true =>
  rw [hc] at HIC
  have HH : Hid (∀ w1, Below w.heap.size w w1 -> Calls Tryz.prog 48 #[.pointer (some ⟨wb, 0, none⟩), .agg #[.string t.y.k, .string t.y.n, .string t.y.r]] w1 fun e w2 => ∃ b, e = .returned (.bool b) /\ w2.cell? ⟨rb, 2, none⟩ = some (.bool r.al) /\ w2.frozen? ⟨rb, 2, none⟩ = false /\ Hid (Calls Tryz.prog 115 #[.pointer (some ⟨rb, 0, none⟩), .int .i64 3] (w2.setCell ⟨rb, 2, none⟩ (.bool b)) fun e w' => e = .returned (.tuple #[]) /\ AnsP xs t r uv rb O w w')) := by
   intro w1 hb1
   refine ((wk.below hb1).has HW t.y sy).mono ?_
   rintro e w2 ⟨b, rfl, hiff, hf⟩
   have hf2 : Frm O w w2 := (Frm.of_below hb1).trans hf fun _ _ e => e
   have h2 := (hf2.block rb hlt nr).trans hb
   have h3 := row_set h2 2 (.bool b)
   refine ⟨b, rfl, row_cell h2 (j := 2) rfl, row_frozen h2 2, ?_⟩
   have ha : AnsR xs t b [] := ⟨fun _ => ⟨rfl, hiff⟩, fun e => by rw [hc] at e; cases e⟩
   refine ans_end (tp := .pointer (some ⟨kb, 0, none⟩)) hf2 hlt ha (by simp) (Or.inl ⟨rfl, rfl⟩) ?_ (frm_set _ _ _ _)
   rw [← us0]; exact h3
  generalize AnsP xs t r uv rb O w = P at *
  generalize t.x = x at *
  generalize t.y = y at *
  clear hb hk wk nr sy al0 us0 HW hc
  go_enter Tryz.func164, Tryz.ntmps164
  go_wp2_with (go_at_call 46; refine (HIC.out _).mono ?_; rintro e w1 ⟨rfl, hb1⟩; obtain ⟨d4, d6, e3, e4, e5⟩ := HC.out w1 hb1; have HH1 : Hid (∀ w2, Below w1.heap.size w1 w2 -> Calls Tryz.prog 48 #[.pointer (some ⟨wb, 0, none⟩), .agg #[.string y.k, .string y.n, .string y.r]] w2 _) := fun w2 hb2 => HH.out w2 (hb1.trans (hb2.mono hb1.size)); clear HH HC hb1)
  go_region_with (go_at_call 48; refine (HH1.out _ (by repeat (first | exact Below.refl _ _ | refine Below.setCell ?_ (by first | exact Nat.le_refl _ | (simp; done) | (simp; omega)) _ | refine below_drewN ?_ _ | refine Below.drew ?_ | refine Below.alloc ?_ (by first | exact Nat.le_refl _ | (simp; done) | (simp; omega)) _))).mono ?_; rintro e w2 ⟨b, rfl, g2, z2, HE⟩)
  all_goals go_wp2_with (go_at_call 115; refine (Calls.mono HE.out) ?_; rintro e w3 ⟨rfl, hp⟩; have HP : Hid (P w3) := hp; clear hp)
  all_goals go_end0
  all_goals exact ⟨rfl, HP.out⟩
 | false =>
  rw [hc] at HIC
  have HH : Hid (∀ w1, Below w.heap.size w w1 -> Calls Tryz.prog 83 #[.pointer (some ⟨wb, 0, none⟩)] w1 fun e w2 => ∃ o n c, e = .returned (.slice o n c) /\ w2.cell? ⟨rb, 3, none⟩ = some uv /\ w2.frozen? ⟨rb, 3, none⟩ = false /\ Hid (Calls Tryz.prog 115 #[.pointer (some ⟨rb, 0, none⟩), .int .i64 3] (w2.setCell ⟨rb, 3, none⟩ (.slice o n c)) fun e w' => e = .returned (.tuple #[]) /\ AnsP xs t r uv rb O w w')) := by
   intro w1 hb1
   refine ((wk.below hb1).who HW).mono ?_
   rintro e w2 ⟨zs, o, c, rfl, hso, hm, hzl, hrow, hf⟩
   have hf2 : Frm O w w2 := (Frm.of_below hb1).trans hf fun _ _ e => e
   have h2 := (hf2.block rb hlt nr).trans hb
   have h3 := row_set h2 3 (.slice o zs.length c)
   refine ⟨o, zs.length, c, rfl, row_cell h2 (j := 3) rfl, row_frozen h2 3, ?_⟩
   have ha : AnsR xs t r.al zs := ⟨fun e => by rw [hc] at e; (cases e), fun _ => ⟨al0, hso, hm⟩⟩
   refine ans_end (tp := .pointer (some ⟨kb, 0, none⟩)) hf2 hlt ha hzl (Or.inr ⟨owns_strT hrow, fun k hk => Nat.le_trans hb1.size (owns_lt hrow k hk).2.1⟩) ?_ (frm_set _ _ _ _)
   exact h3
  generalize AnsP xs t r uv rb O w = P at *
  generalize t.x = x at *
  generalize t.y = y at *
  clear hb hk wk nr sy al0 us0 HW hc
  go_enter Tryz.func164, Tryz.ntmps164
  go_wp2_with (first | (go_at_call 46; refine (HIC.out _).mono ?_; rintro e w1 ⟨rfl, hb1⟩; obtain ⟨d4, d6, e3, e4, e5⟩ := HC.out w1 hb1; have HH1 : Hid (Calls Tryz.prog 83 #[.pointer (some ⟨wb, 0, none⟩)] w1 _) := HH.out w1 hb1; clear HH HC hb1) | (go_at_call 83; refine HH1.out.mono ?_; rintro e w2 ⟨o, n, c, rfl, g2, z2, HE⟩) | (go_at_call 115; refine (Calls.mono HE.out) ?_; rintro e w3 ⟨rfl, hp⟩; have HP : Hid (P w3) := hp; clear hp))
  go_end0
  exact ⟨rfl, HP.out⟩
end Go.Proofs.YtalmoiogbdahcaaGreat
