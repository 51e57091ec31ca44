import Derived.Test.YtalmoiogbdahcaaGreatYWrdC
import Derived.Test.YtalmoiogbdahcaaGreatYRefE
import Derived.Test.YtalmoiogbdahcaaGreatYWrdL
import Derived.Test.YtalmoiogbdahcaaGreatYGramE
import Derived.Test.YtalmoiogbdahcaaGreatYGhA
import Derived.Test.YtalmoiogbdahcaaGreatYGhE
import Derived.Test.YtalmoiogbdahcaaGreatYGhG
import Derived.Test.YtalmoiogbdahcaaGreatYTieC0
import Derived.Test.YtalmoiogbdahcaaGreatYTieP
import Derived.Test.YtalmoiogbdahcaaGreatYBackA
import Derived.Test.YtalmoiogbdahcaaGreatYWhoB
namespace Go.Proofs.YtalmoiogbdahcaaGreat
set_option maxRecDepth 100000
set_option maxHeartbeats 8000000
open Go.RowKit Go.Shelf
structure GateQ (U xs now : List ByteArray) (b : Nat) (g : Pg) (w : World) : Prop where
 pg : PgAt w b g
 lk : g.lk = 0
 rl : RulesN w g.mb xs
 tv : StrT w g.tv now
 tups : TupsOk U now
 uok : UOk U
 cov : Cov U xs
 sz : ∀ t ∈ tsOf now, t.2.isTh = true -> t.2.k.size + 1 + t.2.n.size <= maxLen
 inj : ∀ t ∈ tsOf now, ∀ t' ∈ tsOf now, t.2.isTh = true -> t'.2.isTh = true -> thT t.2 = thT t'.2 -> t.2 = t'.2
theorem GateQ.to {U xs now : List ByteArray} {b : Nat} {g : Pg} {w w' : World} (h : GateQ U xs now b g w) (hk : ∀ k, k < w.heap.size -> w'.heap[k]? = w.heap[k]?) : GateQ U xs now b g w' := by
 refine ⟨(hk b (row_lt h.pg)).trans h.pg, h.lk, ?_, ?_, h.tups, h.uok, h.cov, h.sz, h.inj⟩
 ·exact h.rl.move (fun Gd m hm => hk _ hm.lt) fun g cur hg => hk g (row_lt hg)
 ·rcases h.tv with e | ⟨b, cap, cur, hv, hh, ht⟩
  ·exact Or.inl e
  ·exact Or.inr ⟨b, cap, cur, hv, (hk b (row_lt hh)).trans hh, ht⟩
theorem now_any (HN : Hid NodeC) {U xs now : List ByteArray} {b : Nat} {g : Pg} {w : World} (h : GateQ U xs now b g w) :
  Calls Tryz.prog 42 #[.pointer (some ⟨b, 0, none⟩)] w fun e w' => ∃ tb f who L S lo w1, e = .returned (.pointer (some ⟨tb, 0, none⟩)) /\ w.heap.size <= lo /\ Below w.heap.size w w' /\ Bld U (tsOf now) xs lo tb f who L S w1 w' := by
 have h2 := row_cell h.pg (j := 2) rfl
 have hlt : b < w.heap.size := row_lt h.pg
 have HS : Hid (∀ w0, Below w.heap.size w w0 -> Calls Tryz.prog 50 #[.pointer (some ⟨b, 0, none⟩)] w0 fun e w1 => e = .returned g.tv /\ w1.cell? ⟨b, 2, none⟩ = some (.map (some g.mb)) /\ Hid (∀ w1', Below w1.heap.size w1 w1' -> Calls Tryz.prog 84 #[.map (some g.mb), g.tv] w1' fun e w' => ∃ tb f who L S lo w1, e = .returned (.pointer (some ⟨tb, 0, none⟩)) /\ w.heap.size <= lo /\ Below w.heap.size w w' /\ Bld U (tsOf now) xs lo tb f who L S w1 w')) := by
  intro w0 hb0
  have h0 := h.to hb0.block
  refine (snapshot_any b g w0 h0.pg h.lk).mono ?_
  rintro e w1 ⟨he, hp1, hg1⟩
  have hk1 : ∀ k, k < w0.heap.size -> w1.heap[k]? = w0.heap[k]? := by
   intro k hk
   by_cases e : k = b
   ·rw [e, hp1, h0.pg]
   ·exact hg1.block k hk (fun e2 => e (Option.some.inj e2.symm).symm)
  have hb1 : Below w.heap.size w w1 := hb0.trans ⟨hg1.os, hg1.tape, hg1.output, hg1.size, fun k hk => hk1 k (Nat.lt_of_lt_of_le hk hb0.size)⟩
  refine ⟨he, row_cell hp1 (j := 2) rfl, ?_⟩
  intro w1' hb1'
  have h1 := (h0.to hk1).to hb1'.block
  refine (of_any HN h.uok h1.rl h1.tv.strs h.tups).mono ?_
  rintro e w' ⟨tb, f, who, L, S, he, hB⟩
  have hbb := hb1.trans (hb1'.mono hb1.size)
  exact ⟨tb, f, who, L, S, _, w1', he, hbb.size, hbb.trans (hB.b.mono hbb.size), hB⟩
 have htv : ∃ o n c, g.tv = .slice o n c := by
  rcases h.tv with ⟨e, -⟩ | ⟨b, cap, cur, e, -⟩
  ·exact ⟨_, _, _, e⟩
  ·exact ⟨_, _, _, e⟩
 obtain ⟨o, n, c, htv⟩ := htv
 rw [htv] at HS
 generalize g.mb = mb at *
 clear h htv HN
 go_enter Tryz.func42, Tryz.ntmps42
 go_wp2
 go_region_with (first | (go_at_call 50; refine (HS.out _ (by repeat (first | exact Below.refl _ _ | refine Below.setCell ?_ (by first | exact Nat.le_refl _ | (simp; done) | (simp; omega)) _ | refine below_drewN ?_ _ | refine Below.drew ?_ | refine Below.alloc ?_ (by first | exact Nat.le_refl _ | (simp; done) | (simp; omega)) _))).mono ?_; rintro e w1 ⟨rfl, k2, HO⟩) | (go_at_call 84; refine (HO.out _ (by repeat (first | exact Below.refl _ _ | refine Below.setCell ?_ (by first | exact Nat.le_refl _ | (simp; done) | (simp; omega)) _ | refine below_drewN ?_ _ | refine Below.drew ?_ | refine Below.alloc ?_ (by first | exact Nat.le_refl _ | (simp; done) | (simp; omega)) _))).mono ?_; rintro e w2 ⟨tb, f, who, L, S, lo, w3, rfl, hp⟩; have HP : Hid (w.heap.size <= lo /\ Below w.heap.size w w2 /\ Bld U (tsOf now) xs lo tb f who L S w3 w2) := hp; clear hp))
 all_goals go_wp2
 all_goals go_ret
 all_goals exact ⟨tb, f, who, L, S, lo, w3, rfl, HP.out⟩
def InN (ts : List (Nod × Nod)) (xs : List ByteArray) (u x : Nod) : Prop := u.isTh = true /\ (∃ t ∈ ts, t.2 = u) /\ Std ts (ruleN xs) u x
structure AskW (U xs now : List ByteArray) (x : Nod) (w : World) (wb : Nat) (w2 : World) : Prop where
 has : ∀ w2', Below w2.heap.size w2 w2' -> ∀ y : Nod, y.k.size + 1 + y.n.size <= maxLen -> Calls Tryz.prog 48 #[.pointer (some ⟨wb, 0, none⟩), .agg #[.string y.k, .string y.n, .string y.r]] w2' fun e w' => ∃ b, e = .returned (.bool b) /\ (b = true ↔ ∃ u, InN (tsOf now) xs u x /\ thT u = thT y) /\ Below w.heap.size w w'
 who : ∀ w2', Below w2.heap.size w2 w2' -> Calls Tryz.prog 83 #[.pointer (some ⟨wb, 0, none⟩)] w2' fun e w' => ∃ zs o c, e = .returned (.slice o zs.length c) /\ Sorted zs /\ (∀ s, s ∈ zs ↔ ∃ u, InN (tsOf now) xs u x /\ thT u = s) /\ zs.length <= 50 /\ w'.ownsRow w.heap.size 9 1 (.slice o zs.length c) zs.length (strV zs) /\ Below w.heap.size w w'
 cost : ∀ w2', Below w2.heap.size w2 w2' -> Calls Tryz.prog 44 #[.pointer (some ⟨wb, 0, none⟩)] w2' fun e w' => ∃ met : List Nod, e = .returned (.int .i64 (met.length : Nat)) /\ met.Nodup /\ (∀ y, y ∈ met ↔ Rch (tsOf now) (ruleN xs) x y) /\ met.length <= 32000000 /\ Below w.heap.size w w'
theorem frm_below {X : Nat -> Prop} {B : Nat} {w w1 w2 : World} (hb : Below B w w1) (hf : Frm X w1 w2) (hB : B <= w1.heap.size) (hX : ∀ k, X k -> B <= k) : Below B w w2 :=
 hb.trans ⟨hf.os, hf.tape, hf.output, hf.size, fun k hk => hf.block k (Nat.lt_of_lt_of_le hk hB) (fun e => by have := hX k e; omega)⟩
theorem WA.low {U : List ByteArray} {ts : List (Nod × Nod)} {xs : List ByteArray} {lo tb sb : Nat} {f : Nod -> Option Value} {who : Nod -> Nat} {wb nb mb : Nat} {L : TL} {S : TS} {sv : Value} {met : List Nod} {gone : Nat} {w : World} (h : WA U ts xs lo tb sb f who wb nb mb L S sv met gone w) (hw : lo <= wb) {k : Nat} (hk : whoX wb nb mb L sv k) : lo <= k := by
 rcases hk with (e | e | e) | e
 ·exact (h.ta.t.rl.lt e).2
 ·exact (h.m.num.lt e).2
 ·rw [e]; exact hw
 ·rw [e]; exact h.ta.t.low
theorem askW_of (HW : Hid TWayC) {U xs now : List ByteArray} {b : Nat} {g : Pg} {w : World} (h : GateQ U xs now b g w) {lo tb : Nat} {f : Nod -> Option Value} {who : Nod -> Nat} {L : TL} {S : TS} {w1 w1' w2 : World} (hB : Bld U (tsOf now) xs lo tb f who L S w1 w1') (hlo : w.heap.size <= lo) {w1'' : World} (hb : Below w.heap.size w w1'') {x : Nod} {wb nb mb sb : Nat} {L' : TL} {S' : TS} {sv : Value} (hN : WNew U (tsOf now) xs lo tb f who L S w1'' x wb nb mb sb L' S' sv w2) :
  AskW U xs now x w wb w2 /\ Below w.heap.size w w2 := by
 have hb2 : Below w.heap.size w w2 := hb.trans (hN.bel.mono hlo)
 have hu : S'.uss = S.uss := hN.uss
 have hul : S'.uss.length <= 50 := by rw [hu]; exact Nat.le_trans hB.ul hB.ta.tn
 have hmem : ∀ u, u ∈ S'.uss ↔ u.isTh = true /\ ∃ t ∈ tsOf now, t.2 = u := by rw [hu]; exact hB.us
 have hth : ∀ y : Nod, y.isTh = true -> ∀ i, i < 64 -> ((who y).testBit i = true ↔ S'.uss[i]? = some y) := by rw [hu]; exact hB.th
 have hsz : ∀ u ∈ S'.uss, u.k.size + 1 + u.n.size <= maxLen := by
  intro u hu
  obtain ⟨h1, t, ht, e⟩ := (hmem u).1 hu
  subst e
  exact h.sz t ht h1
 have hinj : ∀ (i j : Nat) (u v : Nod), S'.uss[i]? = some u -> S'.uss[j]? = some v -> thT u = thT v -> i = j := by
  intro i j u v hi hj e
  obtain ⟨h1, t, ht, e1⟩ := (hmem u).1 (List.mem_of_getElem? hi)
  obtain ⟨h2, t', ht', e2⟩ := (hmem v).1 (List.mem_of_getElem? hj)
  subst e1 e2
  have := h.inj t ht t' ht' h1 h2 e
  have nd : S'.uss.Nodup := hN.wa.ta.t.us.nd
  rw [this] at hi
  exact (List.getElem?_inj (List.getElem?_eq_some_iff.1 hi).1 nd).1 (hi.trans hj.symm)
 have hg : Gone (tsOf now) xs x [x] 0 := ⟨rfl, fun y hy => by rw [List.mem_singleton] at hy; rw [hy]; exact Rch.here, fun i y hi => by omega⟩
 have hst : ∀ s, (∃ u ∈ S'.uss, Std (tsOf now) (ruleN xs) u x /\ thT u = s) ↔ ∃ u, InN (tsOf now) xs u x /\ thT u = s := by
  intro s
  constructor
  ·rintro ⟨u, h1, h2, h3⟩
   exact ⟨u, ⟨((hmem u).1 h1).1, ((hmem u).1 h1).2, h2⟩, h3⟩
  ·rintro ⟨u, ⟨h1, h2, h4⟩, h3⟩
   exact ⟨u, (hmem u).2 ⟨h1, h2⟩, h4, h3⟩
 have hz2 : w.heap.size <= w2.heap.size := hb2.size
 have hcov := h.cov
 refine ⟨⟨fun w2' hb' y hy => ?_, fun w2' hb' => ?_, fun w2' hb' => ?_⟩, hb2⟩
 ·have hA := hN.wa.below hb'
  refine (has_walk HW h.cov hA hg hB.sm hth hB.no hul hsz hinj y hy).mono ?_
  rintro e w' ⟨b, he, hiff, hf⟩
  exact ⟨b, he, hiff.trans (hst _), frm_below (hb2.trans (hb'.mono hz2)) hf (Nat.le_trans hz2 hb'.size) fun k hk => Nat.le_trans hlo (hA.low hN.low hk)⟩
 ·have hA := hN.wa.below hb'
  refine (who_any HW h.cov hA hg hB.sm hth hB.no hul hsz hinj).mono ?_
  rintro e w' ⟨zs, v, he, hso, hm, hzl, hrow, hf⟩
  obtain ⟨o, c, rfl⟩ := owns_form hrow
  exact ⟨zs, o, c, he, hso, fun s => (hm s).trans (hst s), hzl, owns_base hrow (Nat.le_trans hz2 hb'.size), frm_below (hb2.trans (hb'.mono hz2)) hf (Nat.le_trans hz2 hb'.size) fun k hk => Nat.le_trans hlo (hA.low hN.low hk)⟩
 ·have hA := hN.wa.below hb'
  refine (walkCost_any (fun h x hx => walkStep_go HW hcov h hx) hA hg).mono ?_
  rintro e w' ⟨L2, S2, sv2, met, he, hs, hgo⟩
  exact ⟨met, he, hs.at'.m.num.nd, hgo.all, met_len hs.at'.ta.t.ok hs.at'.m.num.nd hs.at'.m.kn, frm_below (hb2.trans (hb'.mono hz2)) hs.fr (Nat.le_trans hz2 hb'.size) fun k hk => Nat.le_trans hlo (hA.low hN.low (Or.inl hk))⟩
theorem ask_chain (HN : Hid NodeC) (HW : Hid TWayC) {U xs now : List ByteArray} {b : Nat} {g : Pg} {w : World} (h : GateQ U xs now b g w) {x : Nod} (hx : okNd x) (hth : x.isTh = false) (hr : x.r ∈ U) :
  Calls Tryz.prog 42 #[.pointer (some ⟨b, 0, none⟩)] w fun e w1 => ∃ tb, e = .returned (.pointer (some ⟨tb, 0, none⟩)) /\ Below w.heap.size w w1 /\ Hid (∀ w1', Below w1.heap.size w1 w1' -> Calls Tryz.prog 43 #[.pointer (some ⟨tb, 0, none⟩), .agg #[.string x.k, .string x.n, .string x.r]] w1' fun e w2 => ∃ wb, e = .returned (.pointer (some ⟨wb, 0, none⟩)) /\ Below w.heap.size w w2 /\ Hid (AskW U xs now x w wb w2)) := by
 refine (now_any HN h).mono ?_
 rintro e w1 ⟨tb, f, who, L, S, lo, w0, he, hlo, hb, hB⟩
 refine ⟨tb, he, hb, ?_⟩
 intro w1' hb1
 have hT : TA U (tsOf now) xs lo tb w1'.heap.size f who L S w1' := (hB.ta.below hb1).wide (hB.ta.below hb1).sb (Nat.le_refl _)
 refine (walkNew_any HN hT hx hth hr (by have := hB.tl; have := hB.ta.tn; omega)).mono ?_
 rintro e w2 ⟨wb, nb, mb, sb, L', S', sv, he2, hN⟩
 obtain ⟨h1, h2⟩ := askW_of HW h hB hlo (hb.trans (hb1.mono hb.size)) hN
 exact ⟨wb, he2, h2, h1⟩
def hasR (xs : List ByteArray) (x : Nod) : Bool := (xs.find? (fun s => decide (headKind (rd0 s) = x.k /\ headRel (rd0 s) = x.r))).isSome
theorem hasR_found {w : World} {mb : Nat} {xs : List ByteArray} (h : RulesN w mb xs) (x : Nod) : ∃ m, MapAt w HeadG mb m /\ AllWays m /\ (getM m (headV x.k x.r)).isSome = hasR xs x := by
 obtain ⟨m, lor, h1, h2⟩ := h
 refine ⟨m, h1, h2.ways, ?_⟩
 obtain ⟨es, cl, q1, q2, q3, q4⟩ := h1
 unfold hasR
 cases hf : xs.find? (fun s => decide (headKind (rd0 s) = x.k /\ headRel (rd0 s) = x.r)) with
 | none =>
  have hn : getM m (headV x.k x.r) = none := by
   refine getM_none fun p hp e => ?_
   obtain ⟨i, hi⟩ := List.mem_iff_getElem?.1 hp
   have hil := (List.getElem?_eq_some_iff.1 hi).1
   rw [h2.len] at hil
   have hk := h2.key i _ _ (List.getElem?_eq_getElem hil) hi
   rw [hk] at e
   obtain ⟨e1, e2⟩ := headV_inj e
   have := List.find?_eq_none.1 hf xs[i] (List.getElem_mem hil)
   simp [e1, e2] at this
  rw [hn]; rfl
 | some s =>
  obtain ⟨i, hi, hp⟩ := find_idx hf
  have hil := (List.getElem?_eq_some_iff.1 hi).1
  rw [← h2.len] at hil
  have hmi : m[i]? = some m[i] := List.getElem?_eq_getElem hil
  have hk := h2.key i s _ hi hmi
  simp at hp
  rw [hp.1, hp.2] at hk
  have hg : getM m (headV x.k x.r) = some m[i].2 := getM_of q4 (by rw [← hk]; exact List.getElem_mem hil)
  rw [hg]; rfl
def queL (x y : Nod) : List Value := [.string x.k, .string x.n, .string x.r, .string y.k, .string y.n, .string y.r]
theorem ask_q (HN : Hid NodeC) (HW : Hid TWayC) {U xs now : List ByteArray} {b : Nat} {g : Pg} {w : World} (h : GateQ U xs now b g w) {x y : Nod} (hx : okNd x) (hth : x.isTh = false) (hr : x.r ∈ U) {qb : Nat} (hq : w.heap[qb]? = some (.cells (queL x y).toArray 77 (0, 0))) :
  Calls Tryz.prog 42 #[.pointer (some ⟨b, 0, none⟩)] w fun e w1 => ∃ tb, e = .returned (.pointer (some ⟨tb, 0, none⟩)) /\ w1.heap[qb]? = some (.cells (queL x y).toArray 77 (0, 0)) /\ Hid (∀ w1', Below w1.heap.size w1 w1' -> Calls Tryz.prog 43 #[.pointer (some ⟨tb, 0, none⟩), .agg #[.string x.k, .string x.n, .string x.r]] w1' fun e w2 => ∃ wb, e = .returned (.pointer (some ⟨wb, 0, none⟩)) /\ w2.heap[qb]? = some (.cells (queL x y).toArray 77 (0, 0)) /\ Hid (AskW U xs now x w wb w2)) := by
 refine (ask_chain HN HW h hx hth hr).mono ?_
 rintro e w1 ⟨tb, he, hb, HC⟩
 refine ⟨tb, he, (hb.block _ (row_lt hq)).trans hq, ?_⟩
 intro w1' hb1
 refine (HC.out w1' hb1).mono ?_
 rintro e w2 ⟨wb, he2, hb2, hA⟩
 exact ⟨wb, he2, (hb2.block _ (row_lt hq)).trans hq, hA⟩
def chkB (b1 b2 b3 : ByteArray) : Bool := !((b1.toList == []) && (b2.toList == []) && (b3.toList == []))
def queX (s : ByteArray) : Nod := ndOf (tupNode s)
def queY (s : ByteArray) : Nod := ndOf (queSubj s)
def queC (s : ByteArray) : Bool := chkB (queY s).k (queY s).n (queY s).r
theorem queVal_no {s : ByteArray} (h : queOk s = false) : queVal s = .agg #[.string noneB, .string noneB, .string noneB, .string noneB, .string noneB, .string noneB] := if_neg (fun e => by cases h.symm.trans e)
theorem queVal_yes {s : ByteArray} (h : queOk s = true) : queVal s = .agg #[.string (queX s).k, .string (queX s).n, .string (queX s).r, .string (queY s).k, .string (queY s).n, .string (queY s).r] := by
 unfold queVal queX queY ndOf
 dsimp only
 exact if_pos h
structure QueOk (U : List ByteArray) (s : ByteArray) : Prop where
 ok : okNd (queX s)
 th : (queX s).isTh = false
 rU : (queX s).r ∈ U
 sz : (queY s).k.size + 1 + (queY s).n.size <= maxLen
theorem hasR_any {U xs now : List ByteArray} {b : Nat} {g : Pg} {w : World} (h : GateQ U xs now b g w) {x : Nod} (hx : okNd x) : Calls Tryz.prog 47 #[.pointer (some ⟨b, 0, none⟩), .agg #[.string x.k, .string x.n, .string x.r]] w fun e w' => e = .returned (.bool (hasR xs x)) /\ Below w.heap.size w w' := by
 obtain ⟨m, h1, h2, h3⟩ := hasR_found h.rl x
 have := hasRule_any b g m h2 x.k x.n x.r hx.1 hx.2.2 w h.pg h1
 rw [h3] at this
 exact this
def ExpandP (xs now : List ByteArray) (s : ByteArray) (w : World) (e : Ending) (w' : World) : Prop :=
 ∃ o n c, ∃ er : Int, e = .returned (.tuple #[.slice o n c, .int .i64 er]) /\ Below w.heap.size w w' /\ er = (if queOk s = false \/ queC s = true then 4 else if hasR xs (queX s) = false then 5 else 0) /\ ∃ zs : List ByteArray, n = zs.length /\ Sorted zs /\ zs.length <= 50 /\ w'.ownsRow w.heap.size 9 1 (.slice o n c) zs.length (strV zs) /\ if er = 0 then (∀ z, z ∈ zs ↔ ∃ u, InN (tsOf now) xs u (queX s) /\ thT u = z) else o = none /\ n = 0 /\ c = 0
theorem expand_any (HN : Hid NodeC) (HW : Hid TWayC) {U xs now : List ByteArray} {b : Nat} {g : Pg} {w : World} (h : GateQ U xs now b g w) (s : ByteArray) (hs : s.size <= maxLen) (hQ : queOk s = true -> hasR xs (queX s) = true -> QueOk U s) (hO : okNd (queX s)) :
  Calls Tryz.prog 40 #[.pointer (some ⟨b, 0, none⟩), .string s] w (ExpandP xs now s w) := by
 have hrq := readQuestion_any s w hs
 have HNO : Hid (∀ er : Int, er ≠ 0 -> er = (if queOk s = false \/ queC s = true then 4 else if hasR xs (queX s) = false then 5 else 0) -> ∀ w', Below w.heap.size w w' -> ExpandP xs now s w (.returned (.tuple #[.slice none 0 0, .int .i64 er])) w') := by
  intro er he0 he w' hb
  exact ⟨none, 0, 0, er, rfl, hb, he, [], rfl, List.Pairwise.nil, by simp, World.ownsRow_nil _ _ _ _, by rw [if_neg he0]; exact ⟨rfl, rfl, rfl⟩⟩
 cases hok : queOk s
 ·rw [hok, queVal_no hok] at hrq
  have H4 : Hid (∀ w', Below w.heap.size w w' -> ExpandP xs now s w (.returned (.tuple #[.slice none 0 0, .int .i64 4])) w') := HNO.out 4 (by decide) (by rw [hok]; rfl)
  generalize ExpandP xs now s w = P at *
  clear h hs hQ hO hok HNO HN HW
  go_enter Tryz.func40, Tryz.ntmps40
  go_wp2_with (go_at_call 45; refine hrq.mono ?_; rintro e w1 ⟨rfl, hb1⟩)
  exact H4.out _ (hb1.alloc hb1.size _)
 ·rw [hok, queVal_yes hok] at hrq
  have HIC : Hid (∀ w1, Calls Tryz.prog 46 #[.agg #[.string (queX s).k, .string (queX s).n, .string (queX s).r, .string (queY s).k, .string (queY s).n, .string (queY s).r]] w1 fun e w' => e = .returned (.bool (queC s)) /\ Below w1.heap.size w1 w') := fun w1 => isCheck_any _ _ _ _ _ _ w1
  cases hc : queC s
  ·rw [hc] at HIC
   have HRU : Hid (∀ w1, Below w.heap.size w w1 -> Calls Tryz.prog 47 #[.pointer (some ⟨b, 0, none⟩), .agg #[.string (queX s).k, .string (queX s).n, .string (queX s).r]] w1 fun e w' => e = .returned (.bool (hasR xs (queX s))) /\ Below w1.heap.size w1 w') := fun w1 hb => hasR_any (h.to hb.block) hO
   cases hr : hasR xs (queX s)
   ·rw [hr] at HRU
    have H5 : Hid (∀ w', Below w.heap.size w w' -> ExpandP xs now s w (.returned (.tuple #[.slice none 0 0, .int .i64 5])) w') := HNO.out 5 (by decide) (by rw [hok, hc, hr]; rfl)
    generalize ExpandP xs now s w = P at *
    generalize queX s = x at *
    generalize queY s = y at *
    clear h hs hQ hO hok HNO HN HW hc hr
    go_enter Tryz.func40, Tryz.ntmps40
    go_wp2_with (first | (go_at_call 45; refine hrq.mono ?_; rintro e w1 ⟨rfl, hb1⟩) | (go_at_call 46; refine (HIC.out _).mono ?_; rintro e w2 ⟨rfl, hb2⟩; have hbB : Below w.heap.size w w2 := (hb1.alloc hb1.size _).trans (hb2.mono (by have := hb1.size; simp; omega)); have k0 := hb2.cell (p := ⟨w1.heap.size, 0, none⟩) (by simp); have k1 := hb2.cell (p := ⟨w1.heap.size, 1, none⟩) (by simp); have k2 := hb2.cell (p := ⟨w1.heap.size, 2, none⟩) (by simp)) | (go_at_call 47; refine (HRU.out _ hbB).mono ?_; rintro e w3 ⟨rfl, hb3⟩))
    exact H5.out _ (hbB.trans (hb3.mono hbB.size))
   ·rw [hr] at HRU
    have q := hQ hok hr
    have HAQ : Hid (∀ (wq : World) (qb : Nat), Below w.heap.size w wq -> wq.heap[qb]? = some (.cells (queL (queX s) (queY s)).toArray 77 (0, 0)) -> Calls Tryz.prog 42 #[.pointer (some ⟨b, 0, none⟩)] wq fun e w1 => ∃ tb, e = .returned (.pointer (some ⟨tb, 0, none⟩)) /\ w1.heap[qb]? = some (.cells (queL (queX s) (queY s)).toArray 77 (0, 0)) /\ Hid (∀ w1', Below w1.heap.size w1 w1' -> Calls Tryz.prog 43 #[.pointer (some ⟨tb, 0, none⟩), .agg #[.string (queX s).k, .string (queX s).n, .string (queX s).r]] w1' fun e w2 => ∃ wb, e = .returned (.pointer (some ⟨wb, 0, none⟩)) /\ Hid (∀ w2', Below w2.heap.size w2 w2' -> Calls Tryz.prog 83 #[.pointer (some ⟨wb, 0, none⟩)] w2' fun e w' => ∃ o n c, e = .returned (.slice o n c) /\ ExpandP xs now s w (.returned (.tuple #[.slice o n c, .int .i64 0])) w'))) := by
     intro wq qb hb hq
     refine (ask_q HN HW (h.to hb.block) q.ok q.th q.rU hq).mono ?_
     rintro e w1 ⟨tb, he, hq1, HC⟩
     refine ⟨tb, he, hq1, ?_⟩
     intro w1' hb1
     refine (HC.out w1' hb1).mono ?_
     rintro e w2 ⟨wb, he2, hq2, hA⟩
     refine ⟨wb, he2, ?_⟩
     intro w2' hb2
     refine (hA.out.who w2' hb2).mono ?_
     rintro e w' ⟨zs, o, c, he3, hso, hm, hzl, hrow, hbw⟩
     exact ⟨o, _, c, he3, o, _, c, 0, rfl, hb.trans (hbw.mono hb.size), by rw [hok, hc, hr]; rfl, zs, rfl, hso, hzl, owns_base hrow hb.size, by rw [if_pos rfl]; exact hm⟩
    generalize ExpandP xs now s w = P at *
    clear q hQ hO
    generalize queX s = x at *
    generalize queY s = y at *
    clear h hs hok HNO HN HW hc hr
    go_enter Tryz.func40, Tryz.ntmps40
    go_wp2_with (first | (go_at_call 45; refine hrq.mono ?_; rintro e w1 ⟨rfl, hb1⟩) | (go_at_call 46; refine (HIC.out _).mono ?_; rintro e w2 ⟨rfl, hb2⟩; have hbB : Below w.heap.size w w2 := (hb1.alloc hb1.size _).trans (hb2.mono (by have := hb1.size; simp; omega)); have k0 := hb2.cell (p := ⟨w1.heap.size, 0, none⟩) (by simp); have k1 := hb2.cell (p := ⟨w1.heap.size, 1, none⟩) (by simp); have k2 := hb2.cell (p := ⟨w1.heap.size, 2, none⟩) (by simp); have hq2 : w2.heap[w1.heap.size]? = some (.cells (queL x y).toArray 77 (0, 0)) := (hb2.block _ (by simp)).trans (alloc_new w1 (queL x y) _)) | (go_at_call 47; refine (HRU.out _ hbB).mono ?_; rintro e w3 ⟨rfl, hb3⟩))
    have hbC : Below w.heap.size w w3 := hbB.trans (hb3.mono hbB.size)
    have hq3 : w3.heap[w1.heap.size]? = some (.cells (queL x y).toArray 77 (0, 0)) := (hb3.block _ (row_lt hq2)).trans hq2
    have HNW : Hid _ := HAQ.out w3.drew w1.heap.size hbC.drew hq3
    have l0 : w3.drew.cell? ⟨w1.heap.size, 0, none⟩ = some (.string x.k) := row_cell hq3 (j := 0) rfl
    have l1 : w3.drew.cell? ⟨w1.heap.size, 1, none⟩ = some (.string x.n) := row_cell hq3 (j := 1) rfl
    have l2 : w3.drew.cell? ⟨w1.heap.size, 2, none⟩ = some (.string x.r) := row_cell hq3 (j := 2) rfl
    clear HAQ hq3 hq2 hbC hbB hb3 hb2 hb1 HIC HRU k0 k1 k2
    go_region_with (first | (go_at_call 42; refine (Calls.mono HNW.out) ?_; rintro e w4 ⟨tb, rfl, hq4, HWK⟩; have m0 := row_cell hq4 (j := 0) rfl; have m1 := row_cell hq4 (j := 1) rfl; have m2 := row_cell hq4 (j := 2) rfl; clear hq4) | (go_at_call 43; refine (HWK.out _ (by repeat (first | exact Below.refl _ _ | refine Below.setCell ?_ (by first | exact Nat.le_refl _ | (simp; done) | (simp; omega)) _ | refine below_drewN ?_ _ | refine Below.drew ?_ | refine Below.alloc ?_ (by first | exact Nat.le_refl _ | (simp; done) | (simp; omega)) _))).mono ?_; rintro e w5 ⟨wb, rfl, HWH⟩) | (go_at_call 83; refine (HWH.out _ (by repeat (first | exact Below.refl _ _ | refine Below.setCell ?_ (by first | exact Nat.le_refl _ | (simp; done) | (simp; omega)) _ | refine below_drewN ?_ _ | refine Below.drew ?_ | refine Below.alloc ?_ (by first | exact Nat.le_refl _ | (simp; done) | (simp; omega)) _))).mono ?_; rintro e w6 ⟨o, n, c, rfl, hp⟩))
    all_goals go_wp2
    all_goals exact bodyPost_ret (v := .tuple #[.slice o n c, .int .i64 0]) (by simp [results, Tryz.results40, go_sem]) rfl hp
  ·rw [hc] at HIC
   have H4 : Hid (∀ w', Below w.heap.size w w' -> ExpandP xs now s w (.returned (.tuple #[.slice none 0 0, .int .i64 4])) w') := HNO.out 4 (by decide) (by rw [hc]; simp)
   generalize ExpandP xs now s w = P at *
   generalize queX s = x at *
   generalize queY s = y at *
   clear h hs hQ hO hok HNO HN HW hc
   go_enter Tryz.func40, Tryz.ntmps40
   go_wp2_with (first | (go_at_call 45; refine hrq.mono ?_; rintro e w1 ⟨rfl, hb1⟩) | (go_at_call 46; refine (HIC.out _).mono ?_; rintro e w2 ⟨rfl, hb2⟩; have hbB : Below w.heap.size w w2 := (hb1.alloc hb1.size _).trans (hb2.mono (by have := hb1.size; simp; omega))))
   exact H4.out _ hbB
def askE (xs : List ByteArray) (s : ByteArray) : Int := if queOk s = false then 4 else if hasR xs (queX s) = false then 5 else 0
def zeroQ : Value := .agg #[.string noneB, .string noneB, .string noneB, .string noneB, .string noneB, .string noneB]
def askV (xs : List ByteArray) (s : ByteArray) : Value := if askE xs s = 0 then .agg #[.string (queX s).k, .string (queX s).n, .string (queX s).r, .string (queY s).k, .string (queY s).n, .string (queY s).r] else zeroQ
theorem gateRead_any {U xs now : List ByteArray} {b : Nat} {g : Pg} {w : World} (h : GateQ U xs now b g w) (s : ByteArray) (hs : s.size <= maxLen) (hO : okNd (queX s)) :
  Calls Tryz.prog 41 #[.pointer (some ⟨b, 0, none⟩), .string s] w fun e w' => e = .returned (.tuple #[askV xs s, .int .i64 (askE xs s)]) /\ Below w.heap.size w w' := by
 have hrq := fun w1 => readQuestion_any s w1 hs
 cases hok : queOk s
 ·rw [hok, queVal_no hok] at hrq
  have HV : Hid (askV xs s = zeroQ /\ askE xs s = 4) := by
   have e : askE xs s = 4 := if_pos hok
   refine ⟨?_, e⟩
   unfold askV; rw [e]; exact if_neg (by decide)
  obtain ⟨v1, v2⟩ := HV.out
  rw [v1, v2]
  unfold zeroQ
  clear h hs hO hok HV v1 v2
  go_enter Tryz.func41, Tryz.ntmps41
  go_wp2_with (go_at_call 45; refine (hrq _).mono ?_; rintro e w1 ⟨rfl, hb1⟩; have hz1 : w.heap.size < w1.heap.size := (by have := hb1.size; simp at this; omega); have hc0 := fun o => hb1.cell (p := ⟨w.heap.size, o, none⟩) (by simp); have hf0 := fun o => hb1.frozen (p := ⟨w.heap.size, o, none⟩) (by simp); have hn0 : ¬ w.heap.size = w1.heap.size := (by omega); have hn1 : ¬ w1.heap.size = w.heap.size := (by omega))
  have hB1 : Below w.heap.size w w1 := ((Below.refl w.heap.size w).alloc (Nat.le_refl _) _).trans (hb1.mono (by simp))
  refine bodyPost_ret (v := .tuple #[.agg #[.string noneB, .string noneB, .string noneB, .string noneB, .string noneB, .string noneB], .int .i64 4]) (by simp [results, Tryz.results41, go_sem, hc0, hz1, noneB]) rfl ⟨rfl, ?_⟩
  refine Below.alloc ?_ (by simp; omega) _
  refine Below.setCell ?_ (by simp) _
  refine Below.setCell ?_ (by simp) _
  refine Below.setCell ?_ (by simp) _
  refine Below.setCell ?_ (by simp) _
  refine Below.setCell ?_ (by simp) _
  refine Below.setCell ?_ (by simp) _
  exact hB1
 ·rw [hok, queVal_yes hok] at hrq
  have HRU : Hid (∀ w1, Below w.heap.size w w1 -> Calls Tryz.prog 47 #[.pointer (some ⟨b, 0, none⟩), .agg #[.string (queX s).k, .string (queX s).n, .string (queX s).r]] w1 fun e w' => e = .returned (.bool (hasR xs (queX s))) /\ Below w1.heap.size w1 w') := fun w1 hb => hasR_any (h.to hb.block) hO
  cases hr : hasR xs (queX s)
  ·rw [hr] at HRU
   have HV : Hid (askV xs s = zeroQ /\ askE xs s = 5) := by
    have e : askE xs s = 5 := by unfold askE; rw [hok, hr]; rfl
    refine ⟨?_, e⟩
    unfold askV; rw [e]; exact if_neg (by decide)
   obtain ⟨v1, v2⟩ := HV.out
   rw [v1, v2]
   unfold zeroQ
   generalize queX s = x at *
   generalize queY s = y at *
   clear h hs hO hok HV v1 v2 hr
   go_enter Tryz.func41, Tryz.ntmps41
   go_wp2_with (first | (go_at_call 45; refine (hrq _).mono ?_; rintro e w1 ⟨rfl, hb1⟩; have hz1 : w.heap.size < w1.heap.size := (by have := hb1.size; simp at this; omega); have hn0 : ¬ w.heap.size = w1.heap.size := (by omega); have hn1 : ¬ w1.heap.size = w.heap.size := (by omega); have hB1 : Below w.heap.size w w1 := ((Below.refl w.heap.size w).alloc (Nat.le_refl _) _).trans (hb1.mono (by simp))) | (go_at_call 47; refine (HRU.out _ (hB1.alloc hB1.size _)).mono ?_; rintro e w2 ⟨rfl, hb2⟩; have hz2 : w.heap.size < w2.heap.size := (by have := hb2.size; simp at this; omega); have hb12 : Below (w.heap.size + 1) _ w2 := ((hb1.mono (by simp)).trans ((((Below.refl (w.heap.size + 1) w1).alloc (by omega) _).trans (hb2.mono (by simp; omega))))); have hc0 := fun o => hb12.cell (p := ⟨w.heap.size, o, none⟩) (by simp); have hf0 := fun o => hb12.frozen (p := ⟨w.heap.size, o, none⟩) (by simp)))
   have hB2 : Below w.heap.size w w2 := (hB1.alloc hB1.size _).trans (hb2.mono (by simp; omega))
   refine bodyPost_ret (v := .tuple #[.agg #[.string noneB, .string noneB, .string noneB, .string noneB, .string noneB, .string noneB], .int .i64 5]) (by simp [results, Tryz.results41, go_sem, hc0, noneB]) rfl ⟨rfl, ?_⟩
   refine Below.setCell ?_ (by simp) _
   refine Below.setCell ?_ (by simp) _
   refine Below.setCell ?_ (by simp) _
   refine Below.setCell ?_ (by simp) _
   refine Below.setCell ?_ (by simp) _
   refine Below.setCell ?_ (by simp) _
   exact hB2
  ·rw [hr] at HRU
   have HV : Hid (askV xs s = .agg #[.string (queX s).k, .string (queX s).n, .string (queX s).r, .string (queY s).k, .string (queY s).n, .string (queY s).r] /\ askE xs s = 0) := by
    have e : askE xs s = 0 := by unfold askE; rw [hok, hr]; rfl
    refine ⟨?_, e⟩
    unfold askV; rw [e]; exact if_pos rfl
   obtain ⟨v1, v2⟩ := HV.out
   rw [v1, v2]
   clear HV v1 v2 hO
   generalize queX s = x at *
   generalize queY s = y at *
   clear h hs hok hr
   go_enter Tryz.func41, Tryz.ntmps41
   go_wp2_with (first | (go_at_call 45; refine (hrq _).mono ?_; rintro e w1 ⟨rfl, hb1⟩; have hz1 : w.heap.size < w1.heap.size := (by have := hb1.size; simp at this; omega); have hn0 : ¬ w.heap.size = w1.heap.size := (by omega); have hn1 : ¬ w1.heap.size = w.heap.size := (by omega); have hB1 : Below w.heap.size w w1 := ((Below.refl w.heap.size w).alloc (Nat.le_refl _) _).trans (hb1.mono (by simp))) | (go_at_call 47; refine (HRU.out _ (hB1.alloc hB1.size _)).mono ?_; rintro e w2 ⟨rfl, hb2⟩; have hz2 : w.heap.size < w2.heap.size := (by have := hb2.size; simp at this; omega); have hb12 : Below (w.heap.size + 1) _ w2 := ((hb1.mono (by simp)).trans ((((Below.refl (w.heap.size + 1) w1).alloc (by omega) _).trans (hb2.mono (by simp; omega))))); have hc0 := fun o => hb12.cell (p := ⟨w.heap.size, o, none⟩) (by simp); have hf0 := fun o => hb12.frozen (p := ⟨w.heap.size, o, none⟩) (by simp); have hc1 := fun o => hb2.cell (p := ⟨w1.heap.size, o, none⟩) (by simp)))
   have hB2 : Below w.heap.size w w2 := (hB1.alloc hB1.size _).trans (hb2.mono (by simp; omega))
   refine bodyPost_ret (v := .tuple #[.agg #[.string x.k, .string x.n, .string x.r, .string y.k, .string y.n, .string y.r], .int .i64 0]) (by simp [results, Tryz.results41, go_sem, hc0]) rfl ⟨rfl, ?_⟩
   refine Below.setCell ?_ (by simp) _
   refine Below.setCell ?_ (by simp) _
   refine Below.setCell ?_ (by simp) _
   refine Below.setCell ?_ (by simp) _
   refine Below.setCell ?_ (by simp) _
   refine Below.setCell ?_ (by simp) _
   exact hB2
def CostP (xs now : List ByteArray) (s : ByteArray) (w : World) (e : Ending) (w' : World) : Prop :=
 ∃ k : Nat, e = .returned (.tuple #[.int .i64 k, .int .i64 (askE xs s)]) /\ Below w.heap.size w w' /\ if askE xs s = 0 then ∃ met : List Nod, k = met.length /\ met.Nodup /\ (∀ y, y ∈ met ↔ Rch (tsOf now) (ruleN xs) (queX s) y) /\ met.length <= 32000000 else k = 0
theorem cost_any (HN : Hid NodeC) (HW : Hid TWayC) {U xs now : List ByteArray} {b : Nat} {g : Pg} {w : World} (h : GateQ U xs now b g w) (s : ByteArray) (hs : s.size <= maxLen) (hQ : queOk s = true -> hasR xs (queX s) = true -> QueOk U s) (hO : okNd (queX s)) :
  Calls Tryz.prog 20 #[.pointer (some ⟨b, 0, none⟩), .string s] w (CostP xs now s w) := by
 have hrd := gateRead_any h s hs hO
 by_cases he : askE xs s = 0
 ·have hok : queOk s = true := by
   cases e : queOk s
   ·have : askE xs s = 4 := if_pos e
    rw [he] at this; cases this
   ·rfl
  have hr : hasR xs (queX s) = true := by
   cases e : hasR xs (queX s)
   ·have : askE xs s = 5 := by unfold askE; rw [hok, e]; rfl
    rw [he] at this; cases this
   ·rfl
  have hv : askV xs s = .agg #[.string (queX s).k, .string (queX s).n, .string (queX s).r, .string (queY s).k, .string (queY s).n, .string (queY s).r] := if_pos he
  rw [hv, he] at hrd
  have q := hQ hok hr
  have HAQ : Hid (∀ (wq : World) (qb : Nat), Below w.heap.size w wq -> wq.heap[qb]? = some (.cells (queL (queX s) (queY s)).toArray 77 (0, 0)) -> Calls Tryz.prog 42 #[.pointer (some ⟨b, 0, none⟩)] wq fun e w1 => ∃ tb, e = .returned (.pointer (some ⟨tb, 0, none⟩)) /\ w1.heap[qb]? = some (.cells (queL (queX s) (queY s)).toArray 77 (0, 0)) /\ Hid (∀ w1', Below w1.heap.size w1 w1' -> Calls Tryz.prog 43 #[.pointer (some ⟨tb, 0, none⟩), .agg #[.string (queX s).k, .string (queX s).n, .string (queX s).r]] w1' fun e w2 => ∃ wb, e = .returned (.pointer (some ⟨wb, 0, none⟩)) /\ Hid (∀ w2', Below w2.heap.size w2 w2' -> Calls Tryz.prog 44 #[.pointer (some ⟨wb, 0, none⟩)] w2' fun e w' => ∃ k : Nat, e = .returned (.int .i64 k) /\ CostP xs now s w (.returned (.tuple #[.int .i64 k, .int .i64 0])) w'))) := by
   intro wq qb hb hq
   refine (ask_q HN HW (h.to hb.block) q.ok q.th q.rU hq).mono ?_
   rintro e w1 ⟨tb, he1, hq1, HC⟩
   refine ⟨tb, he1, hq1, ?_⟩
   intro w1' hb1
   refine (HC.out w1' hb1).mono ?_
   rintro e w2 ⟨wb, he2, hq2, hA⟩
   refine ⟨wb, he2, ?_⟩
   intro w2' hb2
   refine (hA.out.cost w2' hb2).mono ?_
   rintro e w' ⟨met, he3, hnd, hm, hml, hbw⟩
   exact ⟨met.length, he3, met.length, by rw [he], hb.trans (hbw.mono hb.size), by rw [if_pos he]; exact ⟨met, rfl, hnd, hm, hml⟩⟩
  generalize CostP xs now s w = P at *
  clear q hQ hO hv
  generalize queX s = x at *
  generalize queY s = y at *
  clear h hs hok HN HW hr he
  go_enter Tryz.func20, Tryz.ntmps20
  go_wp2_with (go_at_call 41; refine hrd.mono ?_; rintro e w1 ⟨rfl, hb1⟩)
  have hb3 : Below w.heap.size w (w1.alloc (.cells #[.string x.k, .string x.n, .string x.r, .string y.k, .string y.n, .string y.r] 77)) := hb1.alloc hb1.size _
  have hq3 : (w1.alloc (.cells #[.string x.k, .string x.n, .string x.r, .string y.k, .string y.n, .string y.r] 77)).heap[w1.heap.size]? = some (.cells (queL x y).toArray 77 (0, 0)) := alloc_new w1 (queL x y) _
  obtain ⟨w3, hw3⟩ : ∃ w3, w1.alloc (.cells #[.string x.k, .string x.n, .string x.r, .string y.k, .string y.n, .string y.r] 77) = w3 := ⟨_, rfl⟩
  rw [hw3] at hb3 hq3 ⊢
  have HNW : Hid _ := HAQ.out w3.drew w1.heap.size hb3.drew hq3
  have l0 : w3.drew.cell? ⟨w1.heap.size, 0, none⟩ = some (.string x.k) := row_cell hq3 (j := 0) rfl
  have l1 : w3.drew.cell? ⟨w1.heap.size, 1, none⟩ = some (.string x.n) := row_cell hq3 (j := 1) rfl
  have l2 : w3.drew.cell? ⟨w1.heap.size, 2, none⟩ = some (.string x.r) := row_cell hq3 (j := 2) rfl
  clear HAQ hq3 hb3 hb1 hrd hw3
  go_region_with (first | (go_at_call 42; refine (Calls.mono HNW.out) ?_; rintro e w4 ⟨tb, rfl, hq4, HWK⟩; have m0 := row_cell hq4 (j := 0) rfl; have m1 := row_cell hq4 (j := 1) rfl; have m2 := row_cell hq4 (j := 2) rfl; clear hq4) | (go_at_call 43; refine (HWK.out _ (by repeat (first | exact Below.refl _ _ | refine Below.setCell ?_ (by first | exact Nat.le_refl _ | (simp; done) | (simp; omega)) _ | refine below_drewN ?_ _ | refine Below.drew ?_ | refine Below.alloc ?_ (by first | exact Nat.le_refl _ | (simp; done) | (simp; omega)) _))).mono ?_; rintro e w5 ⟨wb, rfl, HWH⟩) | (go_at_call 44; refine (HWH.out _ (by repeat (first | exact Below.refl _ _ | refine Below.setCell ?_ (by first | exact Nat.le_refl _ | (simp; done) | (simp; omega)) _ | refine below_drewN ?_ _ | refine Below.drew ?_ | refine Below.alloc ?_ (by first | exact Nat.le_refl _ | (simp; done) | (simp; omega)) _))).mono ?_; rintro e w6 ⟨k, rfl, hp⟩))
  all_goals go_wp2
  all_goals exact bodyPost_ret (v := .tuple #[.int .i64 k, .int .i64 0]) (by simp [results, Tryz.results20, go_sem]) rfl hp
 ·have hv : askV xs s = zeroQ := if_neg he
  rw [hv] at hrd
  unfold zeroQ at hrd
  have hne : (askE xs s != 0) = true := by simpa using he
  have HP : Hid (∀ w', Below w.heap.size w w' -> CostP xs now s w (.returned (.tuple #[.int .i64 0, .int .i64 (askE xs s)])) w') := fun w' hb => ⟨0, rfl, hb, by rw [if_neg he]⟩
  generalize CostP xs now s w = P at *
  generalize askE xs s = er at *
  clear h hs hQ hO HN HW hv he
  go_enter Tryz.func20, Tryz.ntmps20
  go_wp2_with (go_at_call 41; refine hrd.mono ?_; rintro e w1 ⟨rfl, hb1⟩)
  exact HP.out _ (hb1.alloc hb1.size _)
theorem sizeL_four (c : UInt8) (r : List UInt8) : sizeL (c :: r) <= 4 := by
 rw [sizeL_cons]
 by_cases h1 : (c.toNat : Int) < 128
 ·rw [if_pos h1]; omega
 rw [if_neg h1]
 have ht : ∀ n a l, n <= 3 -> tailL n a l r <= 4 := by
  intro n a l hn
  by_cases h : tailL n a l r = 0
  ·omega
  ·obtain ⟨-, -, -, q⟩ := tail_ne h
   omega
 by_cases h2 : 194 <= (c.toNat : Int) /\ (c.toNat : Int) < 224
 ·rw [if_pos h2]; exact ht _ _ _ (by omega)
 rw [if_neg h2]
 by_cases h3 : 224 <= (c.toNat : Int) /\ (c.toNat : Int) < 240
 ·rw [if_pos h3]; exact ht _ _ _ (by omega)
 rw [if_neg h3]
 by_cases h4 : 240 <= (c.toNat : Int) /\ (c.toNat : Int) < 245
 ·rw [if_pos h4]; exact ht _ _ _ (by omega)
 rw [if_neg h4]; omega
theorem nameR_len : ∀ (r : Nat) (l : List UInt8), nameR r l = true -> l.length <= 4 * r := by
 intro r
 induction r with
 | zero => intro l h; simp [nameR] at h
 | succ r ih =>
  intro l h
  cases l with
  | nil => simp
  | cons c l =>
   rw [nameR] at h
   split at h
   ·cases h
   ·split at h
    ·cases h
    ·have h1 := ih _ h
     rw [List.length_drop] at h1
     have := sizeL_four c l
     omega
theorem nameL_len {l : List UInt8} (h : nameL l = true) : l.length <= 36 := nameR_len 9 l h
theorem nameL_pos {l : List UInt8} (h : nameL l = true) : mk l ≠ noneB := fun e => nameL_ne h (by
 have := congrArg (fun b : ByteArray => b.data.toList) e
 exact this)
theorem thT_list (k n r : List UInt8) : (thT ⟨mk k, mk n, mk r⟩).data.toList = k ++ 58 :: n := by
 unfold thT
 simp [mk]
theorem thT_inj {k n k' n' : List UInt8} (hk : nameL k = true) (hk' : nameL k' = true) (h : k ++ 58 :: n = k' ++ 58 :: n') : k = k' /\ n = n' := by
 have h1 := idx_at k n 58 (noMark_ne (nameL_noMark hk) m58)
 have h2 := idx_at k' n' 58 (noMark_ne (nameL_noMark hk') m58)
 rw [h, h2] at h1
 have hl : k.length = k'.length := (Option.some.inj h1).symm
 have h3 := List.append_inj h hl
 exact ⟨h3.1, (List.cons.inj h3.2).2⟩
def relU (xs now : List ByteArray) (s : ByteArray) : List ByteArray := noneB :: (queX s).r :: ((tsOf now).map (fun t => t.1.r) ++ ((tsOf now).map (fun t => t.2.r) ++ xs.flatMap fun y => relsW (ruleW y).1))
theorem tup_ok {s : ByteArray} (h : tupOk s = true) : ∃ k n r k2 n2, ∃ o : Option (List UInt8), nameL k = true /\ nameL n = true /\ nameL r = true /\ nameL k2 = true /\ nameL n2 = true /\ (∀ x, o = some x -> nameL x = true) /\ tpOf s = (⟨mk k, mk n, mk r⟩, ⟨mk k2, mk n2, orel o⟩) /\ s.size <= 250 := by
 obtain ⟨k, n, r, k2, n2, o, d⟩ := parts_of s h
 obtain ⟨-, h1, h2⟩ := tup_of s k n r k2 n2 o d
 refine ⟨k, n, r, k2, n2, o, d.hk, d.hn, d.hr, d.hk2, d.hn2, d.ho, ?_, ?_⟩
 ·unfold tpOf ndOf; rw [h1, h2]
 ·have e : s.size = s.data.toList.length := by rw [Array.length_toList]; rfl
  rw [e, d.text]
  have a1 := nameL_len d.hk
  have a2 := nameL_len d.hn
  have a3 := nameL_len d.hr
  have a4 := nameL_len d.hk2
  have a5 := nameL_len d.hn2
  have a6 : (otail o).length <= 37 := by
   cases o with
   | none => simp [otail]
   | some x => have := nameL_len (d.ho x rfl); simp [otail]; omega
  simp only [List.length_append, List.length_cons]
  omega
theorem big_max : (1000 : Nat) <= maxLen := by decide
theorem orel_size {o : Option (List UInt8)} (h : ∀ x, o = some x -> nameL x = true) : (orel o).size <= 36 := by
 cases o with
 | none => show (0 : Nat) <= 36; omega
 | some x => show (mk x).size <= 36; rw [mk_size]; exact nameL_len (h x rfl)
theorem rule_cov {xs : List ByteArray} (hx : ∀ y ∈ xs, y.size <= 200) (x : Nod) : (∀ r ∈ relsW (ruleN xs x), r ∈ xs.flatMap fun y => relsW (ruleW y).1) /\ lvW (ruleN xs x) <= 201 := by
 unfold ruleN
 cases hf : xs.find? (fun s => decide (headKind (rd0 s) = x.k /\ headRel (rd0 s) = x.r)) with
 | none =>
  refine ⟨fun r hr => ?_, ?_⟩
  ·simp [relsW, isLeaf, relsL] at hr
  ·simp [lvW, isLeaf, lvL]
 | some y =>
  have hm := List.mem_of_find?_eq_some hf
  exact ⟨fun r hr => List.mem_flatMap.2 ⟨y, hm, hr⟩, rule_lv y (hx y hm)⟩
theorem flat_len (xs : List ByteArray) (hx : ∀ y ∈ xs, y.size <= 200) : (xs.flatMap fun y => relsW (ruleW y).1).length <= xs.length * 402 := by
 induction xs with
 | nil => simp
 | cons y l ih =>
  rw [List.flatMap_cons, List.length_append, List.length_cons]
  have h1 := ih fun z hz => hx z (by simp [hz])
  have h2 := relsW_len (ruleW y).1
  have h3 := rule_lv y (hx y (by simp))
  omega
theorem gateQ_of {xs now : List ByteArray} {b : Nat} {g : Pg} {w : World} (pg : PgAt w b g) (lk : g.lk = 0) (rl : RulesN w g.mb xs) (tv : StrT w g.tv now) (nl : now.length <= 50) (few : xs.length <= 12) (hx : ∀ y ∈ xs, y.size <= 200) (ht : ∀ t ∈ now, tupOk t = true) (s : ByteArray) (hs : (queX s).r.size <= maxLen) : GateQ (relU xs now s) xs now b g w := by
 have hbig := big_max
 have hts : ∀ t ∈ tsOf now, ∃ z ∈ now, tpOf z = t := fun t h => List.mem_map.1 h
 refine ⟨pg, lk, rl, tv, ⟨nl, ?_, ?_⟩, ⟨by simp [relU], ?_, ?_⟩, ⟨?_, fun x => (rule_cov hx x).2⟩, ?_, ?_⟩
 ·intro z hz
  obtain ⟨k, n, r, k2, n2, o, -, -, -, -, -, -, -, h9⟩ := tup_ok (ht z hz)
  exact ⟨ht z hz, by omega⟩
 ·intro z hz
  obtain ⟨k, n, r, k2, n2, o, h1, h2, h3, h4, h5, h6, h7, -⟩ := tup_ok (ht z hz)
  have hm : tpOf z ∈ tsOf now := List.mem_map.2 ⟨z, hz, rfl⟩
  have a1 := nameL_len h1
  have a2 := nameL_len h2
  have a3 := nameL_len h3
  have a4 := nameL_len h4
  have a5 := nameL_len h5
  have a6 := orel_size h6
  refine ⟨?_, ?_, ?_, ?_⟩
  ·rw [h7]; exact ⟨by show (mk k).size <= _; rw [mk_size]; omega, by show (mk n).size <= _; rw [mk_size]; omega, by show (mk r).size <= _; rw [mk_size]; omega⟩
  ·rw [h7]; exact ⟨by show (mk k2).size <= _; rw [mk_size]; omega, by show (mk n2).size <= _; rw [mk_size]; omega, by show (orel o).size <= _; omega⟩
  ·unfold relU
   exact List.mem_cons_of_mem _ (List.mem_cons_of_mem _ (List.mem_append_left _ (List.mem_map.2 ⟨_, hm, rfl⟩)))
  ·unfold relU
   exact List.mem_cons_of_mem _ (List.mem_cons_of_mem _ (List.mem_append_right _ (List.mem_append_left _ (List.mem_map.2 ⟨_, hm, rfl⟩))))
 ·unfold relU tsOf
  have := flat_len xs hx
  simp only [List.length_cons, List.length_append, List.length_map]
  omega
 ·intro r hr
  unfold relU at hr
  rcases List.mem_cons.1 hr with e | hr
  ·rw [e]; show (0 : Nat) <= _; omega
  rcases List.mem_cons.1 hr with e | hr
  ·rw [e]; exact hs
  rcases List.mem_append.1 hr with hr | hr
  ·obtain ⟨t, h1, rfl⟩ := List.mem_map.1 hr
   obtain ⟨z, hz, rfl⟩ := hts t h1
   obtain ⟨k, n, r, k2, n2, o, h1, h2, h3, h4, h5, h6, h7, -⟩ := tup_ok (ht z hz)
   have a3 := nameL_len h3
   rw [h7]; show (mk r).size <= _; rw [mk_size]; omega
  rcases List.mem_append.1 hr with hr | hr
  ·obtain ⟨t, h1, rfl⟩ := List.mem_map.1 hr
   obtain ⟨z, hz, rfl⟩ := hts t h1
   obtain ⟨k, n, r, k2, n2, o, h1, h2, h3, h4, h5, h6, h7, -⟩ := tup_ok (ht z hz)
   have a3 := orel_size h6
   rw [h7]; show (orel o).size <= _; omega
  ·obtain ⟨y, hy, hr⟩ := List.mem_flatMap.1 hr
   have := rule_rels y (hx y hy) r hr
   omega
 ·intro x r hr
  unfold relU
  exact List.mem_cons_of_mem _ (List.mem_cons_of_mem _ (List.mem_append_right _ (List.mem_append_right _ ((rule_cov hx x).1 r hr))))
 ·intro t h _
  obtain ⟨z, hz, rfl⟩ := hts t h
  obtain ⟨k, n, r, k2, n2, o, h1, h2, h3, h4, h5, h6, h7, -⟩ := tup_ok (ht z hz)
  have a4 := nameL_len h4
  have a5 := nameL_len h5
  rw [h7]; show (mk k2).size + 1 + (mk n2).size <= _; rw [mk_size, mk_size]; omega
 ·intro t h t' h' hth hth' e
  obtain ⟨z, hz, rfl⟩ := hts t h
  obtain ⟨z', hz', rfl⟩ := hts t' h'
  obtain ⟨k, n, r, k2, n2, o, h1, h2, h3, h4, h5, h6, h7, -⟩ := tup_ok (ht z hz)
  obtain ⟨k', n', r', k2', n2', o', h1', h2', h3', h4', h5', h6', h7', -⟩ := tup_ok (ht z' hz')
  rw [h7] at hth e ⊢
  rw [h7'] at hth' e ⊢
  have e1 : orel o = noneB := by simpa [Nod.isTh] using hth
  have e2 : orel o' = noneB := by simpa [Nod.isTh] using hth'
  have e3 := congrArg (fun b : ByteArray => b.data.toList) e
  have f : ∀ (a c : List UInt8) (q : ByteArray), (thT ⟨mk a, mk c, q⟩).data.toList = a ++ 58 :: c := fun a c q => thT_list a c []
  simp only [f] at e3
  obtain ⟨g1, g2⟩ := thT_inj h4 h4' e3
  show (⟨mk k2, mk n2, orel o⟩ : Nod) = ⟨mk k2', mk n2', orel o'⟩
  rw [g1, g2, e1, e2]
theorem ended_not {q : Rd} (h : q.ended = true) : q.failed = false := by
 cases e : q.failed
 ·rfl
 ·rw [ended_f q e] at h; cases h
theorem ended_nil {b : List UInt8} (hb : (Rd.mk (mk b) 0 false).ended = true) : b = [] := by
 unfold Rd.ended at hb
 simp only [Bool.not_false, Bool.and_true, decide_eq_true_eq] at hb
 exact List.eq_nil_of_length_eq_zero (by simpa [mk, ByteArray.size] using hb)
theorem queQ_f {s : ByteArray} (h : (rd0 s).node.failed = true) : (queQ s).failed = true := by
 cases e : queHas s
 ·rw [← queQ_no e]; exact sees_f _ _ h
 ·rw [queQ_yes e]; exact thing_f _ (sees_f _ _ h)
theorem que_parts (s : ByteArray) (h : queOk s = true) : ∃ k n r, nameL k = true /\ nameL n = true /\ nameL r = true /\ (s.data.toList = k ++ 58 :: (n ++ 35 :: r) \/ ∃ k2 n2, nameL k2 = true /\ nameL n2 = true /\ s.data.toList = k ++ 58 :: (n ++ 35 :: (r ++ 64 :: (k2 ++ 58 :: n2)))) := by
 unfold queOk at h
 have h1 := ended_not h
 rcases name_must (rd0 s) 58 m58 with ⟨k, l1, t1, hk, -, e1⟩ | ⟨-, e1⟩
 case inr =>
  have hx : (queQ s).failed = true := queQ_f (show (rd0 s).node.failed = true from name_f _ (must_f _ _ (show (rd0 s).thing.failed = true from name_f _ e1)))
  rw [hx] at h1; cases h1
 have w1 : (rd0 s).thing = (Rd.mk (mk l1) 0 false).name := by unfold Rd.thing; rw [e1]; rfl
 rcases name_must (Rd.mk (mk l1) 0 false) 35 m35 with ⟨n, l2, t2, hn, -, e2⟩ | ⟨-, e2⟩
 case inr =>
  have hx : (queQ s).failed = true := queQ_f (show (rd0 s).node.failed = true from name_f _ (by rw [w1]; exact e2))
  rw [hx] at h1; cases h1
 have w2 : (rd0 s).node = (Rd.mk (mk l2) 0 false).name := by unfold Rd.node; rw [w1, e2]
 have q1 : s.data.toList = k ++ 58 :: l1 := t1
 have q2 : l1 = n ++ 35 :: l2 := t2
 rcases name_cases (Rd.mk (mk l2) 0 false) with e | ⟨r, b, t3, hr, -, e⟩
 ·have hx : (queQ s).failed = true := queQ_f (by rw [w2, e]; rfl)
  rw [hx] at h1; cases h1
 have q3 : l2 = r ++ b := t3
 have w3 : (rd0 s).node = Rd.mk (mk b) 0 false := by rw [w2, e]
 cases hh : queHas s
 ·have hq : queQ s = Rd.mk (mk b) 0 false := by rw [← queQ_no hh, Rd.sees_no _ _ hh, w3]
  rw [hq] at h
  have hb := ended_nil h
  subst hb
  exact ⟨k, n, r, hk, hn, hr, Or.inl (by rw [q1, q2, q3]; simp)⟩
 ·have hp : preB (mk b) { data := #[64] } = true := by
   have : preB (rd0 s).node.rest { data := #[64] } = true := hh
   rw [w3] at this; exact this
  obtain ⟨l3, rfl⟩ := (pre_one b 64).1 hp
  have hse := (sees_ok (Rd.mk (mk (64 :: l3)) 0 false) 64 l3 rfl).2
  have hq : queQ s = (Rd.mk (mk l3) 0 false).thing := by rw [queQ_yes hh, w3, hse]
  rw [hq] at h h1
  rcases name_must (Rd.mk (mk l3) 0 false) 58 m58 with ⟨k2, l4, t4, hk2, -, e4⟩ | ⟨-, e4⟩
  case inr =>
   have : (Rd.mk (mk l3) 0 false).thing.failed = true := name_f _ e4
   rw [this] at h1; cases h1
  have q4 : l3 = k2 ++ 58 :: l4 := t4
  have w4 : (Rd.mk (mk l3) 0 false).thing = (Rd.mk (mk l4) 0 false).name := by unfold Rd.thing; rw [e4]
  rcases name_cases (Rd.mk (mk l4) 0 false) with e | ⟨n2, b2, t5, hn2, -, e⟩
  ·rw [w4, e] at h1; cases h1
  ·rw [w4, e] at h
   have hb := ended_nil h
   subst hb
   have q5 : l4 = n2 := by have : l4 = n2 ++ [] := t5; simpa using this
   exact ⟨k, n, r, hk, hn, hr, Or.inr ⟨k2, n2, hk2, hn2, by rw [q1, q2, q3, q4, q5]⟩⟩
theorem que_no {s : ByteArray} {k n r : List UInt8} (hk : nameL k = true) (hn : nameL n = true) (hr : nameL r = true) (ht : s.data.toList = k ++ 58 :: (n ++ 35 :: r)) : queOk s = true /\ queC s = false /\ queX s = ⟨mk k, mk n, mk r⟩ /\ queY s = ⟨noneB, noneB, noneB⟩ := by
 have hs : s = mk (k ++ 58 :: (n ++ 35 :: (r ++ []))) := eq_mk (by rw [ht, List.append_nil])
 obtain ⟨a1, a2⟩ := node_ok k n r [] hk hn hr (Or.inl rfl)
 have w3 : (rd0 s).node = Rd.mk (mk []) 0 false := by unfold rd0; rw [hs, a2]
 have hh : queHas s = false := by
  unfold queHas; rw [w3]
  exact pre_no (Rd.mk (mk []) 0 false) 64 (by rintro ⟨r, h⟩; cases h)
 have hq : queQ s = Rd.mk (mk []) 0 false := by rw [← queQ_no hh, Rd.sees_no _ _ hh, w3]
 have hy : queY s = ⟨noneB, noneB, noneB⟩ := by unfold queY ndOf; rw [queSubj_no hh]; rfl
 refine ⟨by unfold queOk; rw [hq]; decide, ?_, ?_, hy⟩
 ·unfold queC chkB
  rw [hy]
  have h0 : (noneB.toList == []) = true := by rw [Lib.toList_data]; rfl
  dsimp only
  rw [h0]; rfl
 ·have : tupNode s = ⟨mk k, mk n, mk r⟩ := by unfold tupNode rd0; rw [hs]; exact a1
  unfold queX ndOf; rw [this]
theorem que_yes {s : ByteArray} {k n r k2 n2 : List UInt8} (hk : nameL k = true) (hn : nameL n = true) (hr : nameL r = true) (hk2 : nameL k2 = true) (hn2 : nameL n2 = true) (ht : s.data.toList = k ++ 58 :: (n ++ 35 :: (r ++ 64 :: (k2 ++ 58 :: n2)))) : queOk s = true /\ queC s = true /\ queX s = ⟨mk k, mk n, mk r⟩ /\ queY s = ⟨mk k2, mk n2, noneB⟩ := by
 have hs : s = mk (k ++ 58 :: (n ++ 35 :: (r ++ 64 :: (k2 ++ 58 :: n2)))) := eq_mk ht
 obtain ⟨a1, a2⟩ := node_ok k n r (64 :: (k2 ++ 58 :: n2)) hk hn hr (Or.inr ⟨_, _, rfl, m64⟩)
 have w3 : (rd0 s).node = Rd.mk (mk (64 :: (k2 ++ 58 :: n2))) 0 false := by unfold rd0; rw [hs, a2]
 obtain ⟨p1, p2⟩ := sees_ok (Rd.mk (mk (64 :: (k2 ++ 58 :: n2))) 0 false) 64 (k2 ++ 58 :: n2) rfl
 have hh : queHas s = true := by unfold queHas; rw [w3]; exact p1
 obtain ⟨b1, b2⟩ := thing_ok k2 n2 [] hk2 hn2 (Or.inl rfl)
 rw [List.append_nil] at b1 b2
 have hq : queQ s = Rd.mk (mk []) 0 false := by rw [queQ_yes hh, w3, p2]; exact b2
 have hsu : queSubj s = ⟨mk k2, mk n2, noneB⟩ := by rw [queSubj_yes hh, w3, p2]; exact b1
 have hy : queY s = ⟨mk k2, mk n2, noneB⟩ := by unfold queY ndOf; rw [hsu]
 refine ⟨by unfold queOk; rw [hq]; decide, ?_, ?_, hy⟩
 ·unfold queC chkB
  rw [hy]
  have h1 : ((mk k2).toList == []) = false := by
   rw [Lib.toList_data, mk_list]
   have := nameL_ne hk2
   cases k2 with
   | nil => exact absurd rfl this
   | cons a l => rfl
  rw [h1]; rfl
 ·have : tupNode s = ⟨mk k, mk n, mk r⟩ := by unfold tupNode rd0; rw [hs]; exact a1
  unfold queX ndOf; rw [this]
theorem queOk_of {s : ByteArray} (h : queOk s = true) (xs now : List ByteArray) : QueOk (relU xs now s) s := by
 have hbig := big_max
 obtain ⟨k, n, r, hk, hn, hr, hx⟩ := que_parts s h
 have a1 := nameL_len hk
 have a2 := nameL_len hn
 have a3 := nameL_len hr
 have hX : queX s = ⟨mk k, mk n, mk r⟩ := by
  rcases hx with ht | ⟨k2, n2, hk2, hn2, ht⟩
  ·exact (que_no hk hn hr ht).2.2.1
  ·exact (que_yes hk hn hr hk2 hn2 ht).2.2.1
 refine ⟨?_, ?_, by simp [relU], ?_⟩
 ·rw [hX]; exact ⟨by show (mk k).size <= _; rw [mk_size]; omega, by show (mk n).size <= _; rw [mk_size]; omega, by show (mk r).size <= _; rw [mk_size]; omega⟩
 ·rw [hX]; exact decide_eq_false (nameL_pos hr)
 ·rcases hx with ht | ⟨k2, n2, hk2, hn2, ht⟩
  ·have hh : (queY s).k.size + 1 + (queY s).n.size <= 1 := by
    have hs : queY s = ⟨noneB, noneB, noneB⟩ := (que_no hk hn hr ht).2.2.2
    rw [hs]; show (0 : Nat) + 1 + 0 <= 1; omega
   omega
  ·have a4 := nameL_len hk2
   have a5 := nameL_len hn2
   rw [(que_yes hk hn hr hk2 hn2 ht).2.2.2]
   show (mk k2).size + 1 + (mk n2).size <= _
   rw [mk_size, mk_size]; omega
def ndT (x : Nod) : ByteArray := x.k ++ ⟨#[58]⟩ ++ x.n ++ ⟨#[35]⟩ ++ x.r
theorem ndT_mk (k n r : List UInt8) : ndT ⟨mk k, mk n, mk r⟩ = mk (k ++ 58 :: (n ++ 35 :: r)) := by
 refine bytes_ext ?_
 unfold ndT
 simp [mk]
theorem thT_mk (k n : List UInt8) (q : ByteArray) : thT ⟨mk k, mk n, q⟩ = mk (k ++ 58 :: n) := bytes_ext (thT_list k n [])
theorem que_node {s : ByteArray} (h : nodeS s = true) : queOk s = true /\ queC s = false /\ ndT (queX s) = s /\ ∃ k n r, nameL k = true /\ nameL n = true /\ nameL r = true /\ queX s = ⟨mk k, mk n, mk r⟩ := by
 obtain ⟨k, n, r, ht, hk, hn, hr⟩ := nodeS_parts s h
 obtain ⟨h1, h2, h3, -⟩ := que_no hk hn hr ht
 refine ⟨h1, h2, ?_, k, n, r, hk, hn, hr, h3⟩
 rw [h3, ndT_mk]; exact (eq_mk ht).symm
theorem que_check {s : ByteArray} (h : tupleS s = true) (hc : thingS (cutZ s 64) = true) : queOk s = true /\ queC s = true /\ ndT (queX s) = cutA s 64 /\ thT (queY s) = cutZ s 64 /\ ∃ k n r, nameL k = true /\ nameL n = true /\ nameL r = true /\ queX s = ⟨mk k, mk n, mk r⟩ := by
 rw [tuple_same] at h
 obtain ⟨k, n, r, k2, n2, o, d⟩ := parts_of s h
 obtain ⟨c1, c2, -⟩ := tup_cut s k n r k2 n2 o d
 have ho : o = none := by
  cases o with
  | none => rfl
  | some x =>
   exfalso
   obtain ⟨k', n', ht, hk', hn'⟩ := thingS_parts _ hc
   rw [c2, mk_list] at ht
   obtain ⟨-, e⟩ := thT_inj d.hk2 hk' ht
   have := noMark_ne (nameL_noMark hn') m35 35 (by rw [← e]; simp [otail])
   exact this rfl
 subst ho
 have ht : s.data.toList = k ++ 58 :: (n ++ 35 :: (r ++ 64 :: (k2 ++ 58 :: n2))) := by rw [d.text]; simp [otail]
 obtain ⟨h1, h2, h3, h4⟩ := que_yes d.hk d.hn d.hr d.hk2 d.hn2 ht
 refine ⟨h1, h2, ?_, ?_, k, n, r, d.hk, d.hn, d.hr, h3⟩
 ·rw [h3, ndT_mk, c1]
 ·rw [h4, thT_mk, c2]; simp [otail]
theorem que_none {s : ByteArray} (h : nodeS s = false) (hc : ¬ (tupleS s = true /\ thingS (cutZ s 64) = true)) : queOk s = false := by
 cases e : queOk s
 ·rfl
 ·exfalso
  obtain ⟨k, n, r, hk, hn, hr, hx⟩ := que_parts s e
  rcases hx with ht | ⟨k2, n2, hk2, hn2, ht⟩
  ·rw [eq_mk ht, nodeS_ok k n r hk hn hr] at h; cases h
  ·have d : TupD s.data.toList k n r k2 n2 none := ⟨by rw [ht]; simp [otail], hk, hn, hr, hk2, hn2, fun x hx => by cases hx⟩
   refine hc ⟨by rw [tuple_same]; exact (tup_of s k n r k2 n2 none d).1, ?_⟩
   rw [(tup_cut s k n r k2 n2 none d).2.1]
   have := thingS_ok k2 n2 hk2 hn2
   simpa [otail] using this
structure NmN (x : Nod) (k n : List UInt8) (o : Option (List UInt8)) : Prop where
 e : x = ⟨mk k, mk n, orel o⟩
 hk : nameL k = true
 hn : nameL n = true
 ho : ∀ r, o = some r -> nameL r = true
def txT (x : Nod) : ByteArray := if x.isTh = true then thT x else ndT x
theorem nmN_th {x : Nod} {k n : List UInt8} {o : Option (List UInt8)} (h : NmN x k n o) : x.isTh = true ↔ o = none := by
 rw [h.e]
 cases o with
 | none => simp [Nod.isTh, orel, noneB]
 | some r => simp [Nod.isTh, orel]; exact decide_eq_false (nameL_pos (h.ho r rfl))
theorem nmN_txt {x : Nod} {k n : List UInt8} {o : Option (List UInt8)} (h : NmN x k n o) : txT x = mk (k ++ 58 :: (n ++ otail o)) := by
 unfold txT
 cases o with
 | none => rw [if_pos ((nmN_th h).2 rfl), h.e, thT_mk]; simp [otail]
 | some r =>
  rw [if_neg (fun e => by have := (nmN_th h).1 e; cases this), h.e]
  show ndT ⟨mk k, mk n, mk r⟩ = _
  rw [ndT_mk]; rfl
theorem mk_inj {a b : List UInt8} (h : mk a = mk b) : a = b := by
 have := congrArg (fun x : ByteArray => x.data.toList) h
 exact this
theorem nmN_inj {x y : Nod} {k n k' n' : List UInt8} {o o' : Option (List UInt8)} (h : NmN x k n o) (h' : NmN y k' n' o') (e : txT x = txT y) : x = y := by
 rw [nmN_txt h, nmN_txt h'] at e
 obtain ⟨e1, e2⟩ := thT_inj h.hk h'.hk (mk_inj e)
 have hn : noMark n := nameL_noMark h.hn
 have hn' : noMark n' := nameL_noMark h'.hn
 rw [h.e, h'.e, e1]
 cases o with
 | none =>
  cases o' with
  | none => simp [otail] at e2; rw [e2]
  | some r' =>
   exfalso
   have e3 : n = n' ++ 35 :: r' := by simpa [otail] using e2
   exact noMark_ne hn m35 35 (by rw [e3]; simp) rfl
 | some r =>
  cases o' with
  | none =>
   exfalso
   have e3 : n' = n ++ 35 :: r := by simpa [otail] using e2.symm
   exact noMark_ne hn' m35 35 (by rw [e3]; simp) rfl
  | some r' =>
   have h1 := idx_at n r 35 (noMark_ne hn m35)
   have h2 := idx_at n' r' 35 (noMark_ne hn' m35)
   have e3 : n ++ 35 :: r = n' ++ 35 :: r' := e2
   rw [e3, h2] at h1
   have h3 := List.append_inj e3 (Option.some.inj h1).symm
   rw [h3.1, (List.cons.inj h3.2).2]
theorem tup_txt {s : ByteArray} (h : tupOk s = true) : (∃ k n r, NmN (tpOf s).1 k n (some r)) /\ (∃ k n o, NmN (tpOf s).2 k n o) /\ cutA s 64 = txT (tpOf s).1 /\ cutZ s 64 = txT (tpOf s).2 := by
 obtain ⟨k, n, r, k2, n2, o, d⟩ := parts_of s h
 obtain ⟨-, h1, h2⟩ := tup_of s k n r k2 n2 o d
 obtain ⟨c1, c2, -⟩ := tup_cut s k n r k2 n2 o d
 have a1 : NmN (tpOf s).1 k n (some r) := ⟨by unfold tpOf ndOf; rw [h1]; rfl, d.hk, d.hn, fun x hx => by cases hx; exact d.hr⟩
 have a2 : NmN (tpOf s).2 k2 n2 o := ⟨by unfold tpOf ndOf; rw [h2], d.hk2, d.hn2, d.ho⟩
 exact ⟨⟨k, n, r, a1⟩, ⟨k2, n2, o, a2⟩, by rw [c1, nmN_txt a1]; rfl, by rw [c2, nmN_txt a2]⟩
theorem subj_same {now : List ByteArray} (ht : ∀ s ∈ now, tupOk s = true) {x : Nod} {k n r : List UInt8} (hx : NmN x k n (some r)) : subjL now (txT x) = (subsOf (tsOf now) x).map txT := by
 unfold subjL
 have : ∀ (l : List ByteArray) (ys : List ByteArray), (∀ s ∈ l, tupOk s = true) -> l.foldl (subjStep (txT x)) ys = ys ++ (subsOf (tsOf l) x).map txT := by
  intro l
  induction l with
  | nil => intro ys _; simp [subsOf, tsOf]
  | cons s l ih =>
   intro ys hl
   obtain ⟨⟨k1, n1, r1, a1⟩, -, c1, c2⟩ := tup_txt (hl s (by simp))
   rw [List.foldl_cons, ih _ (fun z hz => hl z (by simp [hz]))]
   unfold subjStep
   rw [byte_eq, c1, c2]
   by_cases e : (tpOf s).1 = x
   ·rw [e]
    simp [subsOf, tsOf, e]
   ·have e2 : ¬ txT (tpOf s).1 = txT x := fun h => e (nmN_inj a1 hx h)
    simp [subsOf, tsOf, e, e2]
 have h2 := this now [] ht
 simpa using h2
theorem fold_pick {p : ByteArray -> Bool} {g : ByteArray -> ByteArray} (l : List ByteArray) : ∀ ys, l.foldl (fun ys x => if p x = true then ys ++ [g x] else ys) ys = ys ++ (l.filter p).map g := by
 induction l with
 | nil => intro ys; simp
 | cons a l ih =>
  intro ys
  rw [List.foldl_cons, ih]
  by_cases h : p a = true
  ·simp [h]
  ·simp [h]
theorem subs_named {now : List ByteArray} (ht : ∀ s ∈ now, tupOk s = true) {x y : Nod} (hy : y ∈ subsOf (tsOf now) x) : ∃ k n o, NmN y k n o := by
 obtain ⟨t, h1, rfl⟩ := List.mem_map.1 hy
 obtain ⟨s, hs, rfl⟩ := List.mem_map.1 (List.mem_filter.1 h1).1
 exact (tup_txt (ht s hs)).2.1
theorem node_txt {y : Nod} {k n : List UInt8} {o : Option (List UInt8)} (h : NmN y k n o) : nodeS (txT y) = !y.isTh := by
 rw [nmN_txt h]
 cases o with
 | some r =>
  have e : y.isTh = false := by
   cases e : y.isTh
   ·rfl
   ·have := (nmN_th h).1 e; cases this
  rw [e]
  exact nodeS_ok k n r h.hk h.hn (h.ho r rfl)
 | none =>
  rw [(nmN_th h).2 rfl]
  show nodeS (mk (k ++ 58 :: (n ++ []))) = false
  rw [List.append_nil]
  cases e : nodeS (mk (k ++ 58 :: n))
  ·rfl
  ·exfalso
   obtain ⟨k', n', r', ht, hk', hn', hr'⟩ := nodeS_parts _ e
   rw [mk_list] at ht
   obtain ⟨-, e2⟩ := thT_inj h.hk hk' ht
   exact noMark_ne (nameL_noMark h.hn) m35 35 (by rw [e2]; simp) rfl
theorem thing_txt {y : Nod} {k n : List UInt8} {o : Option (List UInt8)} (h : NmN y k n o) : thingS (txT y) = y.isTh := by
 rw [nmN_txt h]
 cases o with
 | none =>
  rw [(nmN_th h).2 rfl]
  show thingS (mk (k ++ 58 :: (n ++ []))) = true
  rw [List.append_nil]
  exact thingS_ok k n h.hk h.hn
 | some r =>
  have e : y.isTh = false := by
   cases e : y.isTh
   ·rfl
   ·have := (nmN_th h).1 e; cases this
  rw [e]
  cases e : thingS (mk (k ++ 58 :: (n ++ otail (some r))))
  ·rfl
  ·exfalso
   obtain ⟨k', n', ht, hk', hn'⟩ := thingS_parts _ e
   rw [mk_list] at ht
   obtain ⟨-, e2⟩ := thT_inj h.hk hk' ht
   exact noMark_ne (nameL_noMark hn') m35 35 (by rw [← e2]; simp [otail]) rfl
theorem leaf_this {now : List ByteArray} (ht : ∀ s ∈ now, tupOk s = true) {x : Nod} {k n r : List UInt8} (hx : NmN x k n (some r)) {way : ByteArray} (hw : (apartS way).is = 116) (f : Nat) : namedF now (txT x) f way = ((subsOf (tsOf now) x).filter fun y => !y.isTh).map txT := by
 have e : namedF now (txT x) f way = (subjL now (txT x)).foldl nodeStep [] := by cases f <;> rw [namedF, if_pos hw]
 rw [e, subj_same ht hx]
 have h1 := fold_pick (p := nodeS) (g := id) ((subsOf (tsOf now) x).map txT) []
 have h2 : ((subsOf (tsOf now) x).map txT).foldl nodeStep [] = ((subsOf (tsOf now) x).map txT).filter nodeS := by
  have : nodeStep = fun ys x => if nodeS x = true then ys ++ [id x] else ys := by funext ys x; rfl
  rw [this, h1]; simp
 rw [h2, List.filter_map]
 congr 1
 refine List.filter_congr fun y hy => ?_
 obtain ⟨k, n, o, hy2⟩ := subs_named ht hy
 exact node_txt hy2
theorem hash_mk (a b : List UInt8) : hashS (mk a) (mk b) = mk (a ++ 35 :: b) := by
 refine bytes_ext ?_
 unfold hashS
 simp [mk]
theorem nmN_to {x : Nod} {k n : List UInt8} {o : Option (List UInt8)} (h : NmN x k n o) {a : List UInt8} (ha : nameL a = true) : NmN (x.to (mk a)) k n (some a) := ⟨by rw [h.e]; rfl, h.hk, h.hn, fun r hr => by cases hr; exact ha⟩
theorem no35 {k n : List UInt8} (hk : nameL k = true) (hn : nameL n = true) : ∀ z ∈ k ++ 58 :: n, z ≠ 35 := by
 intro z hz
 rcases List.mem_append.1 hz with h | h
 ·exact noMark_ne (nameL_noMark hk) m35 z h
 ·rcases List.mem_cons.1 h with h | h
  ·rw [h]; decide
  ·exact noMark_ne (nameL_noMark hn) m35 z h
theorem cut_node {x : Nod} {k n r : List UInt8} (hx : NmN x k n (some r)) : cutA (txT x) 35 = mk (k ++ 58 :: n) := by
 rw [nmN_txt hx]
 exact (cut_at (mk (k ++ 58 :: (n ++ 35 :: r))) (k ++ 58 :: n) r 35 (by rw [mk_list]; simp) (no35 hx.hk hx.hn)).1
theorem hash_node {x : Nod} {k n r : List UInt8} (hx : NmN x k n (some r)) {a : List UInt8} (ha : nameL a = true) : hashS (cutA (txT x) 35) (mk a) = txT (x.to (mk a)) := by
 rw [cut_node hx, hash_mk, nmN_txt (nmN_to hx ha)]
 simp [otail]
theorem hash_thing {y : Nod} {k n : List UInt8} (hy : NmN y k n none) {b : List UInt8} (hb : nameL b = true) : hashS (txT y) (mk b) = txT (y.to (mk b)) := by
 rw [nmN_txt hy, hash_mk, nmN_txt (nmN_to hy hb)]
 simp [otail]
theorem leaf_rel {now : List ByteArray} {x : Nod} {k n r : List UInt8} (hx : NmN x k n (some r)) {way : ByteArray} (hw : (apartS way).is = 114) {a : List UInt8} (ha : nameL a = true) (hA : (apartS way).A = mk a) (f : Nat) : namedF now (txT x) f way = [txT (x.to (mk a))] := by
 have e : namedF now (txT x) f way = [hashS (cutA (txT x) 35) (apartS way).A] := by cases f <;> rw [namedF, if_neg (by omega), if_pos hw]
 rw [e, hA, hash_node hx ha]
theorem leaf_arr {now : List ByteArray} (ht : ∀ s ∈ now, tupOk s = true) {x : Nod} {k n r : List UInt8} (hx : NmN x k n (some r)) {way : ByteArray} (hw : (apartS way).is = 97) {a b : List UInt8} (ha : nameL a = true) (hb : nameL b = true) (hA : (apartS way).A = mk a) (hB : (apartS way).B = mk b) (f : Nat) :
  namedF now (txT x) f way = (((subsOf (tsOf now) (x.to (mk a))).filter (·.isTh)).map (·.to (mk b))).map txT := by
 have e : namedF now (txT x) f way = (subjL now (hashS (cutA (txT x) 35) (apartS way).A)).foldl (arrStep (apartS way).B) [] := by cases f <;> rw [namedF, if_neg (by omega), if_neg (by omega), if_pos hw]
 rw [e, hA, hB, hash_node hx ha, subj_same ht (nmN_to hx ha)]
 have h1 := fold_pick (p := thingS) (g := fun z => hashS z (mk b)) ((subsOf (tsOf now) (x.to (mk a))).map txT) []
 have h2 : ((subsOf (tsOf now) (x.to (mk a))).map txT).foldl (arrStep (mk b)) [] = (((subsOf (tsOf now) (x.to (mk a))).map txT).filter thingS).map fun z => hashS z (mk b) := by
  have : arrStep (mk b) = fun ys x => if thingS x = true then ys ++ [hashS x (mk b)] else ys := by funext ys x; rfl
  rw [this, h1]; simp
 rw [h2, List.filter_map, List.map_map, List.map_map]
 have h3 : (subsOf (tsOf now) (x.to (mk a))).filter (thingS ∘ txT) = (subsOf (tsOf now) (x.to (mk a))).filter (·.isTh) := by
  refine List.filter_congr fun y hy => ?_
  obtain ⟨k, n, o, hy2⟩ := subs_named ht hy
  exact thing_txt hy2
 rw [h3]
 refine List.map_congr_left fun y hy => ?_
 obtain ⟨hy1, hy2⟩ := List.mem_filter.1 hy
 obtain ⟨k, n, o, hy3⟩ := subs_named ht hy1
 have ho := (nmN_th hy3).1 hy2
 subst ho
 exact hash_thing hy3 hb
theorem gr_this (d : Nat) (op : UInt8) : (apartS (mk thisL)).is = 116 := by rw [apart_plain (.this d op) this_quiet]; decide
theorem gr_rel {a : List UInt8} (d : Nat) (op : UInt8) (h1 : nameL a = true) (h2 : a ≠ thisL) : apartS (mk a) = ⟨114, mk a, { data := #[] }⟩ := by
 have e : plainS (mk a) = ⟨114, mk a, { data := #[] }⟩ := by
  unfold plainS
  rw [if_neg (fun e => h2 (by have := congrArg (fun s => s.data.toList) e; exact this)), if_pos (show nameS (mk a) = true from h1)]
 exact (apart_plain (.rel d op a h1 h2) (name_quiet h1)).trans e
theorem gr_more {d : Nat} {op : UInt8} {l m : List UInt8} {ts : List WayT} {t : WayT} (hop : op = 124 \/ op = 38) (h1 : Gr true d op l ts) (h2 : Gr false d op m [t]) : apartS (mk (l ++ op :: m)) = ⟨op.toNat, mk l, mk m⟩ := by
 have hs := (Gr.more d op l m ts t hop h1 h2).scan.top sc0 0 rfl
 have h2l : 2 <= (ts ++ [t]).length := by have := h1.len.1; simp; omega
 have hfl := (hs.2.2.2 h2l).2
 have h1s := h1.scan.top sc0 0 rfl
 have hat : (scn sc0 0 (l ++ op :: m)).a = (l.length : Nat) := by
  have e := (st_op hop (scn sc0 0 l) ((0 + l.length : Nat) : Int)).2 h1s.2.1
  have f := (h2.scan.top ⟨0, ((0 + l.length : Nat) : Int), (scn sc0 0 l).o || op == 124, (scn sc0 0 l).n || op == 38⟩ (0 + l.length + 1) rfl).2.2.1 rfl
  rw [scn_append, scn, e, f]; simp
 have hap := apart_frame (mk (l ++ op :: m)) hs.1 hs.2.1 (by
  rw [mk_list, hfl.1, hfl.2]
  rcases hop with rfl | rfl <;> decide) (by rw [size_len, mk_list]; simp)
 rw [mk_list, hat, if_pos (by omega), show ((l.length : Nat) : Int).toNat = l.length by omega, opS_parts _ l m op (mk_list _)] at hap
 exact hap
theorem gr_br {d : Nat} {op op' : UInt8} {l : List UInt8} {ts : List WayT} (h1 : Gr true d op' l ts) : apartS (mk (40 :: (l ++ [41]))) = apartS (mk l) := by
 have hb := apart_one (.br d op op' l ts h1)
 have hl : 1 <= l.length := by
  rcases l with _ | ⟨c, r⟩
  ·exact absurd rfl (gr_ne h1)
  ·simp
 have hsz : (mk (40 :: (l ++ [41]))).size = l.length + 2 := by rw [size_len, mk_list]; simp
 have hx : (mk (40 :: (l ++ [41]))).extract 1 ((mk (40 :: (l ++ [41]))).size - 1) = mk l := by
  refine eq_mk ?_
  rw [ByteArray.data_extract, Array.toList_extract, List.extract_eq_take_drop, mk_list, hsz]
  show (l ++ [41]).take (l.length + 2 - 1 - 1) = l
  rw [show l.length + 2 - 1 - 1 = l.length by omega, List.take_left]
 rw [if_pos ⟨rfl, by
  rw [hsz]; unfold byteAt; rw [mk_list]
  have : (40 :: (l ++ [41])).getD (l.length + 2 - 1) 0 = (41 : UInt8) := by
   rw [show l.length + 2 - 1 = l.length + 1 by omega, List.getD_cons_succ]
   simp
  rw [this]; rfl, by omega⟩, hx] at hb
 exact hb
theorem gr_arrow {a b : List UInt8} (d : Nat) (op : UInt8) (h1 : nameL a = true) (h2 : nameL b = true) (h3 : a ≠ thisL) (h4 : b ≠ thisL) : apartS (mk (a ++ 45 :: 62 :: b)) = ⟨97, mk a, mk b⟩ := by
 have hx : ∀ x ∈ a, x ≠ (45 : UInt8) := noMark_ne (nameL_noMark h1) (by decide)
 obtain ⟨c1, c2, c3⟩ := cut_at (mk (a ++ 45 :: 62 :: b)) a (62 :: b) 45 (mk_list _) hx
 have hn : ¬ nameS (mk (a ++ 45 :: 62 :: b)) = true := fun e => by
  have := nameL_noMark (a := a ++ 45 :: 62 :: b) e 45 (by simp)
  revert this; decide
 have e : plainS (mk (a ++ 45 :: 62 :: b)) = ⟨97, mk a, mk b⟩ := by
  unfold plainS
  rw [if_neg, if_neg hn]
  ·unfold arrowS
   have c1' : cutA (mk (a ++ 45 :: 62 :: b)) 45 = mk a := c1
   have c2' : cutZ (mk (a ++ 45 :: 62 :: b)) 45 = mk (62 :: b) := c2
   have c3' : cutOk (mk (a ++ 45 :: 62 :: b)) 45 = true := c3
   have c4 : (mk (62 :: b)).extract 1 (mk (62 :: b)).size = mk b := eq_mk (by rw [extract_list]; rfl)
   rw [c1', c2', c3', c4, if_neg, if_neg]
   ·rintro (h | h | h | h)
    ·rw [show nameS (mk a) = true from h1] at h; cases h
    ·rw [show nameS (mk b) = true from h2] at h; cases h
    ·exact h3 (congrArg (fun s => s.data.toList) h)
    ·have := congrArg (fun s => s.data.toList) h
     exact h4 (by simpa [mk_list, toThisS, thisL] using this)
   ·rintro (h | h | h)
    ·cases h
    ·rw [size_len, mk_list] at h; simp at h
    ·exact h rfl
  ·intro e
   have := congrArg (fun s => s.data.toList) e
   have h45 : (45 : UInt8) ∈ thisS.data.toList := by rw [← this]; simp [mk_list]
   revert h45; decide
 exact (apart_plain (.arrow d op a b h1 h2 h3 h4) (arrow_quiet h1 h2)).trans e
theorem namedF_same {now : List ByteArray} {node a b : ByteArray} (h : apartS a = apartS b) (f : Nat) : namedF now node f a = namedF now node f b := by
 cases f <;> rw [namedF, namedF, h]
theorem namedL_append (ts : List (Nod × Nod)) (x : Nod) (l m : List WayT) : namedL ts x (l ++ m) = namedL ts x l ++ namedL ts x m := by
 induction l with
 | nil => simp [namedL]
 | cons t l ih => rw [List.cons_append, namedL, ih, namedL, List.append_assoc]
theorem namedW_join (ts : List (Nod × Nod)) (x : Nod) (op : UInt8) (l : List WayT) : namedW ts x (joinT op l) = namedL ts x l := by
 unfold joinT
 split
 ·simp [namedL]
 ·rw [namedW, if_neg]
  split <;> decide
theorem namedTxt_same {now : List ByteArray} (ht : ∀ s ∈ now, tupOk s = true) {x : Nod} {k n r : List UInt8} (hx : NmN x k n (some r)) {b : Bool} {d : Nat} {op : UInt8} {l : List UInt8} {ts : List WayT} (h : Gr b d op l ts) : ∀ f, l.length <= f -> namedF now (txT x) f (mk l) = ((namedL (tsOf now) x ts).filter fun y => !y.isTh).map txT := by
 induction h with
 | this d op =>
  intro f _
  rw [leaf_this ht hx (gr_this d op) f]
  simp [namedL, namedW, isLeaf, leafW]
 | rel d op a h1 h2 =>
  intro f _
  have e := gr_rel d op h1 h2
  rw [leaf_rel hx (by rw [e]) h1 (by rw [e]) f]
  have e3 : (x.to (mk a)).isTh = false := decide_eq_false (nameL_pos h1)
  simp [namedL, namedW, isLeaf, leafW, e3]
 | arrow d op a b h1 h2 h3 h4 =>
  intro f _
  have e := gr_arrow d op h1 h2 h3 h4
  rw [leaf_arr ht hx (by rw [e]) h1 h2 (by rw [e]) (by rw [e]) f]
  have e3 : ∀ y : Nod, (y.to (mk b)).isTh = false := fun y => decide_eq_false (nameL_pos h2)
  simp [namedL, namedW, isLeaf, leafW, List.filter_map, Function.comp_def, e3]
 | br d op op' l ts h1 ih =>
  intro f hf
  rw [namedF_same (gr_br (op := op) h1) f, ih f (by simp at hf; omega)]
  simp [namedL, namedW_join]
 | one d op l ts h1 ih => exact ih
 | more d op l m ts t hop h1 h2 ih1 ih2 =>
  intro f hf
  have e := gr_more hop h1 h2
  simp only [List.length_append, List.length_cons] at hf
  obtain ⟨g, rfl⟩ : ∃ g, f = g + 1 := ⟨f - 1, by omega⟩
  have hi : (apartS (mk (l ++ op :: m))).is = op.toNat := by rw [e]
  have hne : ¬ ((op.toNat : Int) = 116) /\ ¬ ((op.toNat : Int) = 114) /\ ¬ ((op.toNat : Int) = 97) := by rcases hop with rfl | rfl <;> decide
  rw [namedF, hi, if_neg hne.1, if_neg hne.2.1, if_neg hne.2.2, e]
  dsimp only
  rw [ih1 g (by omega), ih2 g (by omega), namedL_append, List.filter_append, List.map_append]
theorem find_congr {α : Type} {p q : α -> Bool} : ∀ {l : List α}, (∀ a ∈ l, p a = q a) -> l.find? p = l.find? q := by
 intro l
 induction l with
 | nil => intro _; rfl
 | cons a l ih =>
  intro h
  rw [List.find?_cons, List.find?_cons, h a (by simp), ih fun b hb => h b (by simp [hb])]
theorem rule_txt {xs : List ByteArray} (hv : ∀ y ∈ xs, readS y = true) {x : Nod} {k n r : List UInt8} (hx : NmN x k n (some r)) :
  ruleL (ruleOfs xs) (txT x) = match xs.find? (fun s => decide (headKind (rd0 s) = x.k /\ headRel (rd0 s) = x.r)) with | some y => readWay y | none => { data := #[] } := by
 unfold ruleL ruleOfs
 have e0 : (ofS (txT x)).toList = k ++ 35 :: r := by
  rw [nmN_txt hx]
  exact ofS_node k n r hx.hk hx.hn
 rw [e0, List.find?_map]
 have e1 : xs.find? ((fun z : ByteArray × ByteArray => z.1.toList == k ++ 35 :: r) ∘ fun s => (readOf s, readWay s)) = xs.find? (fun s => decide (headKind (rd0 s) = x.k /\ headRel (rd0 s) = x.r)) := by
  refine find_congr fun y hy => ?_
  obtain ⟨-, k', r', wy, op, ts, d⟩ := read_rule y (hv y hy)
  obtain ⟨a1, a2, -, -⟩ := rule_of y d
  show ((readOf y).toList == k ++ 35 :: r) = _
  rw [a1, a2, (rule_read y d).1, Lib.toList_data, mk_list]
  have hxk : x.k = mk k := by rw [hx.e]
  have hxr : x.r = mk r := by rw [hx.e]; rfl
  rw [hxk, hxr]
  by_cases e : k' = k /\ r' = r
  ·rw [e.1, e.2]; simp
  ·have e2 : ¬ (mk k' = mk k /\ mk r' = mk r) := fun h => e ⟨mk_inj h.1, mk_inj h.2⟩
   rw [decide_eq_false e2, beq_eq_false_iff_ne]
   intro h
   have h1 := idx_at k' r' 35 (noMark_ne (nameL_noMark d.hk) m35)
   have h2 := idx_at k r 35 (noMark_ne (nameL_noMark hx.hk) m35)
   rw [h, h2] at h1
   have h3 := List.append_inj h (Option.some.inj h1).symm
   exact e ⟨h3.1, (List.cons.inj h3.2).2⟩
 rw [e1]
 cases xs.find? (fun s => decide (headKind (rd0 s) = x.k /\ headRel (rd0 s) = x.r)) <;> rfl
theorem names_txt {xs now : List ByteArray} (hv : ∀ y ∈ xs, readS y = true) (ht : ∀ s ∈ now, tupOk s = true) {x : Nod} {k n r : List UInt8} (hx : NmN x k n (some r)) :
  ((ruleL (ruleOfs xs) (txT x)).size = 0 /\ namesN (tsOf now) (ruleN xs) x = []) \/ ((ruleL (ruleOfs xs) (txT x)).size ≠ 0 /\ ∀ f, (ruleL (ruleOfs xs) (txT x)).size <= f -> namedF now (txT x) f (ruleL (ruleOfs xs) (txT x)) = (namesN (tsOf now) (ruleN xs) x).map txT) := by
 rw [rule_txt hv hx]
 unfold namesN ruleN
 cases hf : xs.find? (fun s => decide (headKind (rd0 s) = x.k /\ headRel (rd0 s) = x.r)) with
 | none =>
  left
  refine ⟨rfl, ?_⟩
  simp [namedW, isLeaf, namedL]
 | some y =>
  right
  have hy := List.mem_of_find?_eq_some hf
  obtain ⟨-, k', r', wy, op, ts, d⟩ := read_rule y (hv y hy)
  obtain ⟨-, -, a3, -⟩ := rule_of y d
  have hw := (rule_read y d).2.1
  dsimp only
  rw [hw, a3, mk_size]
  refine ⟨fun e => gr_ne d.gr (List.eq_nil_of_length_eq_zero e), fun f hf => ?_⟩
  rw [namedTxt_same ht hx d.gr f hf, namedW_join]
theorem nmN_node {y : Nod} {k n : List UInt8} {o : Option (List UInt8)} (h : NmN y k n o) (hy : y.isTh = false) : ∃ r, NmN y k n (some r) := by
 cases o with
 | none => rw [(nmN_th h).2 rfl] at hy; cases hy
 | some r => exact ⟨r, h⟩
theorem named_nm {now : List ByteArray} (ht : ∀ s ∈ now, tupOk s = true) {x : Nod} {k n r : List UInt8} (hx : NmN x k n (some r)) {b : Bool} {d : Nat} {op : UInt8} {l : List UInt8} {ts : List WayT} (h : Gr b d op l ts) : ∀ y ∈ namedL (tsOf now) x ts, y.isTh = false -> ∃ k n r, NmN y k n (some r) := by
 induction h with
 | this d op =>
  intro y hy hth
  simp [namedL, namedW, isLeaf, leafW] at hy
  obtain ⟨k, n, o, hn⟩ := subs_named ht hy
  obtain ⟨r, hr⟩ := nmN_node hn hth
  exact ⟨k, n, r, hr⟩
 | rel d op a h1 h2 =>
  intro y hy hth
  simp [namedL, namedW, isLeaf, leafW] at hy
  rw [hy]
  exact ⟨k, n, a, nmN_to hx h1⟩
 | arrow d op a b h1 h2 h3 h4 =>
  intro y hy hth
  simp [namedL, namedW, isLeaf, leafW] at hy
  obtain ⟨z, ⟨hz, -⟩, rfl⟩ := hy
  obtain ⟨k, n, o, hn⟩ := subs_named ht hz
  exact ⟨k, n, b, nmN_to hn h2⟩
 | br d op op' l ts h1 ih =>
  intro y hy hth
  simp [namedL, namedW_join] at hy
  exact ih y hy hth
 | one d op l ts h1 ih => exact ih
 | more d op l m ts t hop h1 h2 ih1 ih2 =>
  intro y hy hth
  rw [namedL_append] at hy
  rcases List.mem_append.1 hy with e | e
  ·exact ih1 y e hth
  ·exact ih2 y e hth
theorem names_nm {xs now : List ByteArray} (hv : ∀ y ∈ xs, readS y = true) (ht : ∀ s ∈ now, tupOk s = true) {x : Nod} {k n r : List UInt8} (hx : NmN x k n (some r)) {y : Nod} (hy : y ∈ namesN (tsOf now) (ruleN xs) x) : ∃ k n r, NmN y k n (some r) := by
 unfold namesN ruleN at hy
 obtain ⟨h1, h2⟩ := List.mem_filter.1 hy
 cases hf : xs.find? (fun s => decide (headKind (rd0 s) = x.k /\ headRel (rd0 s) = x.r)) with
 | none => rw [hf] at h1; simp [namedW, isLeaf, namedL] at h1
 | some s =>
  rw [hf] at h1
  dsimp only at h1
  obtain ⟨-, k', r', wy, op, ts, d⟩ := read_rule s (hv s (List.mem_of_find?_eq_some hf))
  rw [(rule_of s d).2.2.1, namedW_join] at h1
  exact named_nm ht hx d.gr y h1 (by simpa using h2)
theorem idx_mem {met : List Nod} (hm : ∀ z ∈ met, ∃ k n r, NmN z k n (some r)) {y : Nod} {k n r : List UInt8} (hy : NmN y k n (some r)) : idxI (met.map txT) (txT y) < 0 ↔ y ∉ met := by
 unfold idxI
 cases hf : (met.map txT).findIdx? (fun x => x.toList == (txT y).toList) with
 | none =>
  simp only [Int.reduceNeg, Int.reduceLT, true_iff]
  intro h
  rw [List.findIdx?_eq_none_iff] at hf
  have := hf (txT y) (List.mem_map.2 ⟨y, h, rfl⟩)
  simp at this
 | some i =>
  have h0 : ¬ ((i : Int) < 0) := by omega
  simp only [h0, false_iff]
  obtain ⟨hi, he, -⟩ := List.findIdx?_eq_some_iff_getElem.1 hf
  rw [byte_eq, decide_eq_true_iff, List.getElem_map] at he
  have hz : met[i]'(by simpa using hi) ∈ met := List.getElem_mem _
  obtain ⟨k', n', r', hz2⟩ := hm _ hz
  rw [← nmN_inj hz2 hy he]
  exact fun h => h hz
end Go.Proofs.YtalmoiogbdahcaaGreat
