import Derived.Test.YtalmoiogbdahcaaGreatPKrlB
import Derived.Test.YtalmoiogbdahcaaGreatPKepB
import Derived.Test.YtalmoiogbdahcaaGreatTAskA
import Derived.Test.YtalmoiogbdahcaaGreatTDskT
import Derived.Test.YtalmoiogbdahcaaGreatTKepA
import Derived.Test.YtalmoiogbdahcaaGreatYSrtB
import Derived.Test.YtalmoiogbdahcaaGreatTGhG
namespace Go.Proofs.YtalmoiogbdahcaaGreat
set_option maxRecDepth 100000
set_option maxHeartbeats 8000000
open Go.RowKit Go.Shelf
structure GPl (U xs now : List ByteArray) : Prop where
 tups : TupsOk U now
 uok : UOk U
 cov : Cov U xs
 sz : ∀ t ∈ tsOf now, t.2.isTh = true -> t.2.k.size + 1 + t.2.n.size <= maxLen
 inj : ∀ t ∈ tsOf now, ∀ t' ∈ tsOf now, t.2.isTh = true -> t'.2.isTh = true -> thT t.2 = thT t'.2 -> t.2 = t'.2
theorem GateQ.pl {U xs now : List ByteArray} {b : Nat} {g : Pg} {w : World} (h : GateQ U xs now b g w) : GPl U xs now := ⟨h.tups, h.uok, h.cov, h.sz, h.inj⟩
theorem wk_new {U xs now : List ByteArray} (h : GPl U xs now) {lo tb : Nat} {f : Nod -> Option Value} {who : Nod -> Nat} {L : TL} {S : TS} {w1 w1' w1'' w2 : World} (hB : Bld U (tsOf now) xs lo tb f who L S w1 w1') {x : Nod} {wb nb mb sb : Nat} {L' : TL} {S' : TS} {sv : Value} (hN : WNew U (tsOf now) xs lo tb f who L S w1'' x wb nb mb sb L' S' sv w2) {mr : Nat} (hm : L'.mb = mr) : WkAt xs now x mr (fun k => lo <= k /\ k < w2.heap.size) wb [x] 0 w2 := by
 have hu : S'.uss = S.uss := hN.uss
 have hmem : ∀ u, u ∈ S'.uss ↔ u.isTh = true /\ ∃ t ∈ tsOf now, t.2 = u := by rw [hu]; exact hB.us
 refine ⟨⟨U, lo, tb, sb, f, who, nb, mb, L', S', sv, hN.wa, hN.wa.inLo hN.low, hm, ⟨h.cov, hB.sm, by rw [hu]; exact hB.th, hB.no, by rw [hu]; exact Nat.le_trans hB.ul hB.ta.tn, ?_, ?_, hmem⟩⟩, ⟨rfl, fun y hy => by rw [List.mem_singleton] at hy; rw [hy]; exact Rch.here, fun i y hi => by omega⟩, fun k e => e.2⟩
 ·intro u hu
  obtain ⟨h1, t, ht, e⟩ := (hmem u).1 hu
  subst e
  exact h.sz t ht h1
 ·intro i j u v hi hj e
  obtain ⟨h1, t, ht, e1⟩ := (hmem u).1 (List.mem_of_getElem? hi)
  obtain ⟨h2, t', ht', e2⟩ := (hmem v).1 (List.mem_of_getElem? hj)
  subst e1 e2
  have := h.inj t ht t' ht' h1 h2 e
  have nd : S'.uss.Nodup := hN.wa.ta.t.us.nd
  rw [this] at hi
  exact (List.getElem?_inj (List.getElem?_eq_some_iff.1 hi).1 nd).1 (hi.trans hj.symm)
def TaskP (xs now : List ByteArray) (x : Nod) (mr lo : Nat) (w w' : World) (wkb : Nat) : Prop :=
 Below w.heap.size w w' /\ ∃ O : Nat -> Prop, WkAt xs now x mr O wkb [x] 0 w' /\ ∀ k, O k -> lo <= k
theorem TaskP.low {xs now : List ByteArray} {x : Nod} {mr lo lo' : Nat} {w w' : World} {wkb : Nat} (h : TaskP xs now x mr lo w w' wkb) (hl : lo' <= lo) : TaskP xs now x mr lo' w w' wkb := by
 obtain ⟨h1, O, h2, h3⟩ := h
 exact ⟨h1, O, h2, fun k e => Nat.le_trans hl (h3 k e)⟩
theorem frm_more {w w' : World} {b : Nat} (h : Frm (fun k => k = b) w w') (i : Nat) (v : Value) : Frm (fun k => k = b) w (w'.setCell ⟨b, i, none⟩ v) := by
 have h2 : Frm (fun k => k = b) w' (w'.setCell ⟨b, i, none⟩ v) := ⟨rfl, rfl, rfl, by simp [World.setCell], fun k _ hx => Below.heap_setCell _ _ _ _ hx⟩
 exact h.trans h2 fun _ _ e => e
theorem TaskP.set {xs now : List ByteArray} {x : Nod} {mr lo : Nat} {w w3 w4 : World} {wkb : Nat} (h : TaskP xs now x mr lo w w3 wkb) {b : Nat} (h1 : w.heap.size <= b) (h2 : b < lo) {cs : List Value} (hr : w3.heap[b]? = some (.cells cs.toArray 115 (0, 0))) (hf : Frm (fun k => k = b) w3 w4) : TaskP xs now x mr lo w w4 wkb := by
 obtain ⟨hb, O, hk, ho⟩ := h
 refine ⟨hb.trans ⟨hf.os, hf.tape, hf.output, hf.size, fun k hk' => hf.block k (Nat.lt_of_lt_of_le hk' hb.size) (by omega)⟩, O, hk.keep hf.size (fun k e => hf.block k (hk.lt k e) (by have := ho k e; omega)) ?_, ho⟩
 refine hk.rules.move (fun Gd m hm => hf.block _ hm.lt fun e => ?_) fun g cur hg => hf.block g (row_lt hg) fun e => ?_
 ·obtain ⟨es, c, q, -⟩ := hm
  rw [e, hr] at q; injection q with q; cases q
 ·rw [e, hr] at hg; injection hg with hg; injection hg with _ hg; revert hg; decide
theorem task_chain (HN : Hid NodeC) {U xs now : List ByteArray} (h : GPl U xs now) {mb : Nat} {tv : Value} {w w0 : World} (hb0 : Below w.heap.size w w0) (hr : RulesN w0 mb xs) (ht : StrT w0 tv now) {x : Nod} (hx : okNd x) (hth : x.isTh = false) (hru : x.r ∈ U) :
  Calls Tryz.prog 84 #[.map (some mb), tv] w0 fun e w1 => ∃ tb, e = .returned (.pointer (some ⟨tb, 0, none⟩)) /\ Below w0.heap.size w0 w1 /\ Hid (∀ w1', Below w1.heap.size w1 w1' -> Calls Tryz.prog 43 #[.pointer (some ⟨tb, 0, none⟩), .agg #[.string x.k, .string x.n, .string x.r]] w1' fun e w2 => ∃ wb, e = .returned (.pointer (some ⟨wb, 0, none⟩)) /\ Below w0.heap.size w0 w2 /\ Hid (TaskP xs now x mb w0.heap.size w w2 wb)) := by
 refine (of_any2 HN h.uok hr ht.strs h.tups).mono ?_
 rintro e w1 ⟨tb, f, who, L, S, he, hB, hL⟩
 refine ⟨tb, he, hB.b, ?_⟩
 intro w1' hb1
 have hT : TA U (tsOf now) xs w0.heap.size tb w1'.heap.size f who L S w1' := (hB.ta.below hb1).wide (hB.ta.below hb1).sb (Nat.le_refl _)
 refine (walkNew2 HN hT hx hth hru (by have := hB.tl; have := hB.ta.tn; omega)).mono ?_
 rintro e w2 ⟨wb, nb, mb', sb, L', S', sv, he2, hN, hL'⟩
 have hb02 : Below w0.heap.size w0 w2 := (hB.b.trans (hb1.mono hB.b.size)).trans hN.bel
 refine ⟨wb, he2, hb02, hb0.trans (hb02.mono hb0.size), _, wk_new h hB hN (hL'.trans hL), fun k e => e.1⟩
theorem gTask_any (HN : Hid NodeC) {U xs now : List ByteArray} (h : GPl U xs now) {b : Nat} {g : Pg} {w : World} (hg : PgAt w b g) (hr : RulesN w g.mb xs) (ht : StrT w g.tv now) {x y : Nod} (hx : okNd x) (hth : x.isTh = false) (hru : x.r ∈ U) (bud til : Int) :
  Calls Tryz.prog 60 #[.pointer (some ⟨b, 0, none⟩), .agg #[.string x.k, .string x.n, .string x.r, .string y.k, .string y.n, .string y.r], .int .i64 bud, .int .i64 til] w fun e w' => ∃ wkb, e = .returned (.agg #[.string x.k, .string x.n, .string x.r, .string y.k, .string y.n, .string y.r, .pointer (some ⟨wkb, 0, none⟩), .int .i64 bud, .int .i64 til]) /\ TaskP xs now x g.mb w.heap.size w w' wkb := by
 have HOF : Hid (∀ w0, Below w.heap.size w w0 -> Calls Tryz.prog 84 #[.map (some g.mb), g.tv] w0 fun e w1 => ∃ tb, e = .returned (.pointer (some ⟨tb, 0, none⟩)) /\ Below w0.heap.size w0 w1 /\ Hid (∀ w1', Below w1.heap.size w1 w1' -> Calls Tryz.prog 43 #[.pointer (some ⟨tb, 0, none⟩), .agg #[.string x.k, .string x.n, .string x.r]] w1' fun e w2 => ∃ wb, e = .returned (.pointer (some ⟨wb, 0, none⟩)) /\ Below w0.heap.size w0 w2 /\ Hid (TaskP xs now x g.mb w0.heap.size w w2 wb))) := fun w0 hb0 => task_chain HN h hb0 (hr.below hb0) (strT_to ht fun k hk => hb0.block k (strT_own ht k hk).1) hx hth hru
 have c30 := row_cell hg (j := 3) rfl
 have hlt := row_lt hg
 have htv : ∃ o n c, g.tv = .slice o n c := by
  rcases ht with ⟨e, -⟩ | ⟨b, cap, cur, e, -⟩
  ·exact ⟨_, _, _, e⟩
  ·exact ⟨_, _, _, e⟩
 obtain ⟨o, n, c, htv⟩ := htv
 have c3 : w.cell? ⟨b, 3, none⟩ = some (.slice o n c) := by rw [← htv]; exact c30
 have HG : Hid (∀ w0, Below w.heap.size w w0 -> w0.cell? ⟨b, 2, none⟩ = some (.map (some g.mb)) /\ w0.cell? ⟨b, 3, none⟩ = some (.slice o n c)) := by
  intro w0 hb0
  have hg0 := (hb0.block b hlt).trans hg
  exact ⟨row_cell hg0 (j := 2) rfl, by rw [← htv]; exact row_cell hg0 (j := 3) rfl⟩
 clear c3 c30
 rw [htv] at HOF
 generalize g.mb = mb at *
 clear hg hr ht htv h HN
 go_enter Tryz.func60, Tryz.ntmps60
 go_wp2
 have hb0 : Below w.heap.size w ((w.alloc (.cells #[.string x.k, .string x.n, .string x.r, .string y.k, .string y.n, .string y.r] 77)).alloc (.cells #[.string { data := #[] }, .string { data := #[] }, .string { data := #[] }, .string { data := #[] }, .string { data := #[] }, .string { data := #[] }, .pointer none, .int .i64 0, .int .i64 0] 115)) := by repeat (first | exact Below.refl _ _ | refine Below.setCell ?_ (by first | exact Nat.le_refl _ | (simp; done) | (simp; omega)) _ | refine below_drewN ?_ _ | refine Below.drew ?_ | refine Below.alloc ?_ (by first | exact Nat.le_refl _ | (simp; done) | (simp; omega)) _)
 have hq0 : ((w.alloc (.cells #[.string x.k, .string x.n, .string x.r, .string y.k, .string y.n, .string y.r] 77)).alloc (.cells #[.string { data := #[] }, .string { data := #[] }, .string { data := #[] }, .string { data := #[] }, .string { data := #[] }, .string { data := #[] }, .pointer none, .int .i64 0, .int .i64 0] 115)).heap[w.heap.size]? = some (.cells (queL x y).toArray 77 (0, 0)) := alloc_row (alloc_new w (queL x y) _) _
 have hr0 : ((w.alloc (.cells #[.string x.k, .string x.n, .string x.r, .string y.k, .string y.n, .string y.r] 77)).alloc (.cells #[.string { data := #[] }, .string { data := #[] }, .string { data := #[] }, .string { data := #[] }, .string { data := #[] }, .string { data := #[] }, .pointer none, .int .i64 0, .int .i64 0] 115)).heap[w.heap.size + 1]? = some (.cells [.string { data := #[] }, .string { data := #[] }, .string { data := #[] }, .string { data := #[] }, .string { data := #[] }, .string { data := #[] }, .pointer none, .int .i64 0, .int .i64 0].toArray 115 (0, 0)) := by
  have h1 := alloc_new (w.alloc (.cells #[.string x.k, .string x.n, .string x.r, .string y.k, .string y.n, .string y.r] 77)) [.string { data := #[] }, .string { data := #[] }, .string { data := #[] }, .string { data := #[] }, .string { data := #[] }, .string { data := #[] }, .pointer none, .int .i64 0, .int .i64 0] 115
  have e : (w.alloc (.cells #[.string x.k, .string x.n, .string x.r, .string y.k, .string y.n, .string y.r] 77)).heap.size = w.heap.size + 1 := by show (w.heap.push _).size = _; simp
  rw [e] at h1
  exact h1
 generalize ((w.alloc (.cells #[.string x.k, .string x.n, .string x.r, .string y.k, .string y.n, .string y.r] 77)).alloc (.cells #[.string { data := #[] }, .string { data := #[] }, .string { data := #[] }, .string { data := #[] }, .string { data := #[] }, .string { data := #[] }, .pointer none, .int .i64 0, .int .i64 0] 115)) = w0 at *
 have HOF0 : Hid (∀ w1, Below w0.heap.size w0 w1 -> Calls Tryz.prog 84 #[.map (some mb), .slice o n c] w1 fun e w2 => ∃ tb, e = .returned (.pointer (some ⟨tb, 0, none⟩)) /\ w2.cell? ⟨w.heap.size, 0, none⟩ = some (.string x.k) /\ w2.cell? ⟨w.heap.size, 1, none⟩ = some (.string x.n) /\ w2.cell? ⟨w.heap.size, 2, none⟩ = some (.string x.r) /\ Hid (∀ w1', Below w2.heap.size w2 w1' -> Calls Tryz.prog 43 #[.pointer (some ⟨tb, 0, none⟩), .agg #[.string x.k, .string x.n, .string x.r]] w1' fun e w3 => ∃ wb, e = .returned (.pointer (some ⟨wb, 0, none⟩)) /\ Hid (w3.heap[w.heap.size]? = some (.cells (queL x y).toArray 77 (0, 0)) /\ w3.heap[w.heap.size + 1]? = some (.cells [.string { data := #[] }, .string { data := #[] }, .string { data := #[] }, .string { data := #[] }, .string { data := #[] }, .string { data := #[] }, .pointer none, .int .i64 0, .int .i64 0].toArray 115 (0, 0)) /\ TaskP xs now x mb w0.heap.size w w3 wb))) := by
  intro w1 hb1
  have hbw : Below w.heap.size w w1 := hb0.trans (hb1.mono hb0.size)
  have hq1 := (hb1.block _ (row_lt hq0)).trans hq0
  have hr1 := (hb1.block _ (row_lt hr0)).trans hr0
  refine (HOF.out w1 hbw).mono ?_
  rintro e w2 ⟨tb, he, hb2, HK⟩
  have hq2 := (hb2.block _ (row_lt hq1)).trans hq1
  refine ⟨tb, he, row_cell hq2 (j := 0) rfl, row_cell hq2 (j := 1) rfl, row_cell hq2 (j := 2) rfl, ?_⟩
  intro w1' hb1'
  refine (HK.out w1' hb1').mono ?_
  rintro e w3 ⟨wb, he3, hb3, hT⟩
  exact ⟨wb, he3, (hb3.block _ (row_lt hq1)).trans hq1, (hb3.block _ (row_lt hr1)).trans hr1, hT.out.low hb1.size⟩
 obtain ⟨g2, g3⟩ := HG.out w0 hb0
 have l0 : w0.cell? ⟨w.heap.size, 0, none⟩ = some (.string x.k) := row_cell hq0 (j := 0) rfl
 have l1 : w0.cell? ⟨w.heap.size, 1, none⟩ = some (.string x.n) := row_cell hq0 (j := 1) rfl
 have l2 : w0.cell? ⟨w.heap.size, 2, none⟩ = some (.string x.r) := row_cell hq0 (j := 2) rfl
 have hz0 : w.heap.size + 1 < w0.heap.size := row_lt hr0
 clear HOF HG hq0 hr0 hb0
 go_cut [9] from 10 to 22 (fun v w3 => ∃ wb, v = .pointer (some ⟨wb, 0, none⟩) /\ w3.heap[w.heap.size]? = some (.cells (queL x y).toArray 77 (0, 0)) /\ w3.heap[w.heap.size + 1]? = some (.cells [.string { data := #[] }, .string { data := #[] }, .string { data := #[] }, .string { data := #[] }, .string { data := #[] }, .string { data := #[] }, .pointer none, .int .i64 0, .int .i64 0].toArray 115 (0, 0)) /\ TaskP xs now x mb w0.heap.size w w3 wb)
 case first =>
  go_region_with (first | (go_at_call 84; refine (HOF0.out _ (by repeat (first | exact Below.refl _ _ | refine Below.setCell ?_ (by first | exact Nat.le_refl _ | (simp; done) | (simp; omega)) _ | refine below_drewN ?_ _ | refine Below.drew ?_ | refine Below.alloc ?_ (by first | exact Nat.le_refl _ | (simp; done) | (simp; omega)) _))).mono ?_; rintro e w2 ⟨tb, rfl, m0, m1, m2, HWK⟩) | (go_at_call 43; refine (HWK.out _ (by repeat (first | exact Below.refl _ _ | refine Below.setCell ?_ (by first | exact Nat.le_refl _ | (simp; done) | (simp; omega)) _ | refine below_drewN ?_ _ | refine Below.drew ?_ | refine Below.alloc ?_ (by first | exact Nat.le_refl _ | (simp; done) | (simp; omega)) _))).mono ?_; rintro e w3 ⟨wb, rfl, HF⟩))
  all_goals (go_wp2_with fail; go_meet)
  all_goals exact ⟨wb, rfl, HF.out⟩
 case rest =>
  obtain ⟨wb, rfl, hF⟩ := hcut
  obtain ⟨w3, rfl⟩ : ∃ w3, w3 = wc := ⟨_, rfl⟩
  have HF : Hid (w3.heap[w.heap.size]? = some (.cells (queL x y).toArray 77 (0, 0)) /\ w3.heap[w.heap.size + 1]? = some (.cells [.string { data := #[] }, .string { data := #[] }, .string { data := #[] }, .string { data := #[] }, .string { data := #[] }, .string { data := #[] }, .pointer none, .int .i64 0, .int .i64 0].toArray 115 (0, 0)) /\ TaskP xs now x mb w0.heap.size w w3 wb) := hF
  clear hF HOF0
  have hq3 := HF.out.1
  have hr3 := HF.out.2.1
  have p0 := row_cell hq3 (j := 0) rfl
  have p1 := row_cell hq3 (j := 1) rfl
  have p2 := row_cell hq3 (j := 2) rfl
  have p3 := row_cell hq3 (j := 3) rfl
  have p4 := row_cell hq3 (j := 4) rfl
  have p5 := row_cell hq3 (j := 5) rfl
  have r0 := row_cell hr3 (j := 0) rfl
  have r1 := row_cell hr3 (j := 1) rfl
  have r2 := row_cell hr3 (j := 2) rfl
  have r3 := row_cell hr3 (j := 3) rfl
  have r4 := row_cell hr3 (j := 4) rfl
  have r5 := row_cell hr3 (j := 5) rfl
  have r6 := row_cell hr3 (j := 6) rfl
  have r7 := row_cell hr3 (j := 7) rfl
  have r8 := row_cell hr3 (j := 8) rfl
  have z0 := row_frozen hr3 0
  have z1 := row_frozen hr3 1
  have z2 := row_frozen hr3 2
  have z3 := row_frozen hr3 3
  have z4 := row_frozen hr3 4
  have z5 := row_frozen hr3 5
  have z6 := row_frozen hr3 6
  have z7 := row_frozen hr3 7
  have z8 := row_frozen hr3 8
  clear hq3 hr3
  go_wp2
  refine bodyPost_ret (v := .agg #[.string x.k, .string x.n, .string x.r, .string y.k, .string y.n, .string y.r, .pointer (some ⟨wb, 0, none⟩), .int .i64 bud, .int .i64 til]) (by simp [results, Tryz.results60, go_sem, r0, r1, r2, r3, r4, r5, r6, r7, r8]) rfl ⟨wb, rfl, ?_⟩
  refine (HF.out.2.2.set (b := w.heap.size + 1) (by omega) hz0 HF.out.2.1 ?_).low (by omega)
  repeat refine frm_more ?_ _ _
  exact Frm.refl _ _
def TakP (xs : List ByteArray) (mr : Nat) (R : Nat -> Prop) (db : Nat) (Q O : Nat -> Prop) (D : Dk) (t : Tk) (wb : Nat) (w w' : World) : Prop :=
 Frm Q w w' /\ ∃ Q' tv' ls', DkAt xs mr R db Q' (takeD D t) tv' wb ls' w' /\ ∀ k, Q' k -> Q k \/ O k \/ (w.heap.size <= k /\ k < w'.heap.size)
theorem take_chain {xs : List ByteArray} {mr : Nat} {R : Nat -> Prop} {db : Nat} {Q : Nat -> Prop} {D : Dk} {tv : Value} {wb : Nat} {ls : List Rl} {w : World} (h : DkAt xs mr R db Q D tv wb ls w) (hl : D.rs.length < 30) {O : Nat -> Prop} {wkb : Nat} {met : List Nod} {t : Tk} (hT : TkNew xs mr R Q O wkb met t w) :
  Calls Tryz.prog 108 #[.pointer (some ⟨w.heap.size + 1, 0, none⟩), .int .i64 D.clock] ((w.alloc (.cells (tkL t wkb).toArray 115)).alloc (.cells (rqL (newR t) (.slice none 0 0) (.pointer (some ⟨w.heap.size, 0, none⟩))).toArray 161)) fun e w3 => e = .returned (.tuple #[]) /\ w3.cell? ⟨db, 2, none⟩ = some tv /\
   ∃ o c w5, (Builtin.append_ #[155, 155] 155 #[tv, .slice (some ⟨w3.heap.size, 0, none⟩) 1 1]).run Tryz.prog (w3.alloc (.cells #[.pointer (some ⟨w.heap.size + 1, 0, none⟩)] 158)) = .ok (.slice o (D.rs.length + 1) c) w5 /\ w5.cell? ⟨db, 2, none⟩ = some tv /\ w5.frozen? ⟨db, 2, none⟩ = false /\ (w5.setCell ⟨db, 2, none⟩ (.slice o (D.rs.length + 1) c)).cell? ⟨db, 2, none⟩ = some (.slice o (D.rs.length + 1) c) /\ Hid (TakP xs mr R db Q O D t wb w (w5.setCell ⟨db, 2, none⟩ (.slice o (D.rs.length + 1) c))) := by
 have hO := hT.wk.lt
 have hR2 := hT.rq
 have hb2 : Below w.heap.size w ((w.alloc (.cells (tkL t wkb).toArray 115)).alloc (.cells (rqL (newR t) (.slice none 0 0) (.pointer (some ⟨w.heap.size, 0, none⟩))).toArray 161)) := by repeat (first | exact Below.refl _ _ | refine Below.setCell ?_ (by first | exact Nat.le_refl _ | (simp; done) | (simp; omega)) _ | refine below_drewN ?_ _ | refine Below.drew ?_ | refine Below.alloc ?_ (by first | exact Nat.le_refl _ | (simp; done) | (simp; omega)) _)
 refine (rqLate_any hR2 D.clock).mono ?_
 rintro e w3 ⟨rfl, hf3, hz3, tp', hR3⟩
 have hs2 : w.heap.size + 2 <= w3.heap.size := by have := hR3.lt (w.heap.size + 1) (Or.inr (Or.inr rfl)); omega
 have hb3 : Below w.heap.size w w3 := hb2.trans ⟨hf3.os, hf3.tape, hf3.output, hf3.size, fun k hk => hf3.block k (Nat.lt_of_lt_of_le hk hb2.size) (by omega)⟩
 have hD3 := h.below hb3
 have hlen : ls.length <= 100000000 := by rw [h.len]; omega
 obtain ⟨v', w5, hrun, hrow, hgr, hown⟩ := app_at Tryz.underlying155 Tryz.infoReq rfl (by decide) (by decide) w3 0 tv ls.length (ls.map rlV) [.pointer (some ⟨w.heap.size + 1, 0, none⟩)] rfl (by intro u hu; simp at hu; rw [hu]; rfl) hD3.row (Nat.zero_le _) hlen
 obtain ⟨o, c, rfl⟩ := owns_form hrow
 have hdt : ∀ k, tv.ownBlock = some k -> k ≠ db := by
  intro k hk e
  obtain ⟨-, -, cur, h1⟩ := owns_lt h.row k hk
  rw [e, h.blk] at h1
  injection h1 with h1
  injection h1 with _ h1
  revert h1; decide
 have hdb5 : w5.heap[db]? = w3.heap[db]? := hgr.block db (row_lt hD3.blk) fun e => hdt db e.symm rfl
 have hblk5 := hdb5.trans hD3.blk
 have hlr : ls.length + 1 = D.rs.length + 1 := by rw [h.len]
 rw [hlr] at hrun
 refine ⟨rfl, row_cell hD3.blk (j := 2) rfl, o, c, w5, hrun, row_cell hblk5 (j := 2) rfl, row_frozen hblk5 2, row_cell (row_set hblk5 2 _) (j := 2) rfl, ?_⟩
 have hf5 : Frm (fun k => k = db \/ tv.ownBlock = some k) w (w5.setCell ⟨db, 2, none⟩ (.slice o (D.rs.length + 1) c)) := by
  refine ((Frm.of_below hb3).trans (Frm.of_grown (X := fun k => tv.ownBlock = some k) hgr fun k e => e) fun j _ e => Or.inr e).trans (frm_set _ _ _ _) fun j _ e => Or.inl e
 have hz5 := setSz w5 ⟨db, 2, none⟩ (.slice o (D.rs.length + 1) c)
 have hPQ : ∀ k, (O k \/ k = w.heap.size \/ k = w.heap.size + 1) -> ¬ Q k := by
  intro k e q
  have := h.lt k q
  rcases e with e | e | e
  ·exact hT.oq k e q
  ·omega
  ·omega
 have hR6 : RqAt xs mr (w.heap.size + 1) (fun k => O k \/ k = w.heap.size \/ k = w.heap.size + 1) (lateR D.clock (newR t)) (.slice none 0 0) tp' (w5.setCell ⟨db, 2, none⟩ (.slice o (D.rs.length + 1) c)) := by
  refine hR3.keep (by rw [hz5]; exact hgr.size) (fun k hk => ?_) (h.ru.frm hf5 fun k hk e => ?_).now
  ·have hkq := hPQ k hk
   have h1 : (w5.setCell ⟨db, 2, none⟩ (.slice o (D.rs.length + 1) c)).heap[k]? = w5.heap[k]? := Below.heap_setCell _ _ _ _ (fun e => hkq (e ▸ h.dQ))
   exact h1.trans (hgr.block k (hR3.lt k hk) fun e => hkq (h.tQ k e.symm))
  ·rcases e with e | e
   ·exact h.rq k hk (e ▸ h.dQ)
   ·exact h.rq k hk (h.tQ k e)
 have key := h.take (w' := w5.setCell ⟨db, 2, none⟩ (.slice o (D.rs.length + 1) c)) (O := O) (fun k e => ⟨hO k e, hT.oq k e, fun r => hT.ro k r e⟩) (P := fun k => O k \/ k = w.heap.size \/ k = w.heap.size + 1) (fun k e => by
  rcases e with e | e | e
  ·exact Or.inl e
  ·exact Or.inr (by omega)
  ·exact Or.inr (by omega)) hR6 hl hf5 (row_set hblk5 2 _) (by
   rw [← hlr]
   exact owns_to hrow fun g hg => Below.heap_setCell _ _ _ _ (by
    intro e
    obtain ⟨-, -, cur, h1⟩ := owns_lt hrow g hg
    have e : g = db := e
    rw [e, hblk5] at h1
    injection h1 with h1
    injection h1 with _ h1
    revert h1; decide)) (fun k hk => by
   rcases hown k (by rw [hlr]; exact hk) with e | e
   ·exact Or.inl e
   ·refine Or.inr ⟨by omega, fun p => ?_⟩
    have := hR3.lt k p
    omega)
 exact ⟨hf5.mono fun k _ e => by
  rcases e with e | e
  ·rw [e]; exact h.dQ
  ·exact h.tQ k e, _, _, _, key, fun k e => e⟩
theorem dkTake_any {xs : List ByteArray} {mr : Nat} {R : Nat -> Prop} {db : Nat} {Q : Nat -> Prop} {D : Dk} {tv : Value} {wb : Nat} {ls : List Rl} {w : World} (h : DkAt xs mr R db Q D tv wb ls w) (hl : D.rs.length < 30) {O : Nat -> Prop} {wkb : Nat} {met : List Nod} {t : Tk} (hT : TkNew xs mr R Q O wkb met t w) :
  Calls Tryz.prog 59 #[.pointer (some ⟨db, 0, none⟩), .agg #[.string t.x.k, .string t.x.n, .string t.x.r, .string t.y.k, .string t.y.n, .string t.y.r, .pointer (some ⟨wkb, 0, none⟩), .int .i64 t.bud, .int .i64 t.til]] w fun e w' => e = .returned (.int .i64 ((D.rs.length + 1 : Nat) : Int)) /\ TakP xs mr R db Q O D t wb w w' := by
 have HC : Hid _ := take_chain h hl hT
 have d1 := row_cell h.blk (j := 1) rfl
 have hlt := row_lt h.blk
 have d1a := fun o => row_cell (alloc_row h.blk o) (j := 1) rfl
 have d1b := fun o o' => row_cell (alloc_row (alloc_row h.blk o) o') (j := 1) rfl
 obtain ⟨tx, tc, htv⟩ := owns_form h.row
 have hlen := h.len
 rw [htv, hlen] at HC
 generalize TakP xs mr R db Q O D t wb w = PP at *
 unfold tkL rqL newR at HC
 generalize t.x = x at *
 generalize t.y = y at *
 generalize t.bud = bud at *
 generalize t.til = til at *
 generalize D.clock = clock at *
 generalize D.rs.length = N at *
 clear h hT htv hlen
 go_enter Tryz.func59, Tryz.ntmps59
 go_wp2_with (first | (go_at_call 108; refine (Calls.mono HC.out) ?_; rintro e w3 ⟨rfl, k2, o, c, w5, hrun, k5, z5, k6, HP⟩) | (at_builtin; refine wpList_app_run rfl (.tmp 19) (.tmp 21) 155 rfl _ _ _ rfl rfl hrun ?_))
 go_ret
 exact ⟨rfl, HP.out⟩
open Go.RowKit Go.Shelf Go.MuLone
def calmQ (Q : Exit -> Act -> World -> Prop) (e : Exit) (a : Act) (w : World) : Prop := match e with
 | .panic _ => False
 | e => Q e a w
theorem wp_calm {P : Program} {c : Code} {Q : Exit -> Act -> World -> Prop} {a : Act} {w : World} (h : Code.wp P c (calmQ Q) a w) : Code.wp P c Q a w :=
 Code.wp_mono (fun e a w hq => by
  cases e with
  | panic c => exact (hq : False).elim
  | normal => exact hq
  | exit id => exact hq
  | goto l => exact hq
  | ret => exact hq
  | outgrown => exact hq) h
theorem calm_normal {Q : Exit -> Act -> World -> Prop} {a : Act} {w : World} (h : Q .normal a w) : calmQ Q .normal a w := h
def tkOf (now : List ByteArray) (s : ByteArray) (bud til : Int) : Tk := ⟨queX s, queY s, now, bud, til⟩
theorem askE_zero {xs : List ByteArray} {s : ByteArray} (h : askE xs s = 0) : queOk s = true /\ hasR xs (queX s) = true := by
 have hok : queOk s = true := by
  cases e : queOk s
  ·have : askE xs s = 4 := if_pos e
   rw [h] at this; cases this
  ·rfl
 refine ⟨hok, ?_⟩
 cases e : hasR xs (queX s)
 ·have : askE xs s = 5 := by unfold askE; rw [hok, e]; rfl
  rw [h] at this; cases this
 ·rfl
theorem sub_chain (HN : Hid NodeC) {w : World} {B gb : Nat} {g : Pg} {m : List (Value × Value)} {lo : Nat} {xs now : List ByteArray} {R Q : Nat -> Prop} {D : Dk} (h : KD w B gb g m lo xs now R Q D) {s : ByteArray} (hs : s.size <= maxLen) (he : askE xs s = 0) {bud til : Int} (hb1 : 1 <= bud) (hb9 : bud <= 1000000000) (ht0 : 0 <= til) (ht9 : til <= 1000000000) (hfu : D.rs.length < 30) {w5 : World} (hb : Below w.heap.size (w.setCell ⟨gb, 0, none⟩ (.int .i32 1)) w5) {db : Nat} (hdb : g.dk = .pointer (some ⟨db, 0, none⟩)) :
  Calls Tryz.prog 61 #[.agg #[.string (queX s).k, .string (queX s).n, .string (queX s).r, .string (queY s).k, .string (queY s).n, .string (queY s).r]] w5 fun e w6 => e = .returned (.agg #[.string (queX s).k, .string (queX s).n, .string (queX s).r, .string (queY s).k, .string (queY s).n, .string (queY s).r]) /\ w6.cell? ⟨gb, 5, none⟩ = some (.pointer (some ⟨db, 0, none⟩)) /\
   Hid (Calls Tryz.prog 60 #[.pointer (some ⟨gb, 0, none⟩), .agg #[.string (queX s).k, .string (queX s).n, .string (queX s).r, .string (queY s).k, .string (queY s).n, .string (queY s).r], .int .i64 bud, .int .i64 til] w6 fun e w7 => ∃ wkb, e = .returned (.agg #[.string (queX s).k, .string (queX s).n, .string (queX s).r, .string (queY s).k, .string (queY s).n, .string (queY s).r, .pointer (some ⟨wkb, 0, none⟩), .int .i64 bud, .int .i64 til]) /\ w7.cell? ⟨gb, 5, none⟩ = some (.pointer (some ⟨db, 0, none⟩)) /\
    Hid (Calls Tryz.prog 59 #[.pointer (some ⟨db, 0, none⟩), .agg #[.string (queX s).k, .string (queX s).n, .string (queX s).r, .string (queY s).k, .string (queY s).n, .string (queY s).r, .pointer (some ⟨wkb, 0, none⟩), .int .i64 bud, .int .i64 til]] w7 fun e w8 => e = .returned (.int .i64 ((D.rs.length + 1 : Nat) : Int)) /\ w8.cell? ⟨gb, 0, none⟩ = some (.int .i32 1) /\ w8.frozen? ⟨gb, 0, none⟩ = false /\ Hid (OpP w B gb g m lo xs now R Q g.cl (fun D' => D' = takeD D (tkOf now s bud til)) (w8.setCell ⟨gb, 0, none⟩ (.int .i32 0))))) := by
 obtain ⟨hok, hhr⟩ := askE_zero he
 obtain ⟨hsx, hsy⟩ := que_small hok
 have hq := queOk_of hok xs now
 have hgq := h.gate s hs
 obtain ⟨db', tv, wb, ls, hdb', hd1, hpg1, hru1, htv1, hf1, hz1⟩ := h.lockd
 have hdd : db' = db := by
  have e : Value.pointer (some ⟨db', 0, none⟩) = Value.pointer (some ⟨db, 0, none⟩) := hdb'.symm.trans hdb
  simp only [Value.pointer.injEq, Option.some.injEq, Addr.mk.injEq, and_true] at e
  exact e
 subst hdd
 have hb5 : Below (w.setCell ⟨gb, 0, none⟩ (.int .i32 1)).heap.size (w.setCell ⟨gb, 0, none⟩ (.int .i32 1)) w5 := by rw [hz1]; exact hb
 refine (queClone_any (queX s) (queY s) hsx hsy w5).mono ?_
 rintro e w6 ⟨he6, hb56⟩
 have hb6 : Below (w.setCell ⟨gb, 0, none⟩ (.int .i32 1)).heap.size (w.setCell ⟨gb, 0, none⟩ (.int .i32 1)) w6 := hb5.trans (hb56.mono hb5.size)
 have hpg6 := pg_below hpg1 hb6
 have c65 : w6.cell? ⟨gb, 5, none⟩ = some (.pointer (some ⟨db', 0, none⟩)) := by rw [← hdb]; exact row_cell hpg6 (j := 5) rfl
 refine ⟨he6, c65, ?_⟩
 have hru6 : RulesN w6 g.mb xs := ⟨m, lo, (hru1.below hb6).now.1, (hru1.below hb6).now.2⟩
 have htv6 : StrT w6 g.tv now := strT_to htv1 fun k hk => hb6.block k (strT_own htv1 k hk).1
 refine (gTask_any HN hgq.pl (g := { g with lk := 1 }) hpg6 hru6 htv6 hq.ok hq.th hq.rU (y := queY s) bud til).mono ?_
 rintro e w7 ⟨wkb, he7, hb67, O, hwk, hO⟩
 have hb7 : Below (w.setCell ⟨gb, 0, none⟩ (.int .i32 1)).heap.size (w.setCell ⟨gb, 0, none⟩ (.int .i32 1)) w7 := hb6.trans (hb67.mono hb6.size)
 have hpg7 := pg_below hpg1 hb7
 have c75 : w7.cell? ⟨gb, 5, none⟩ = some (.pointer (some ⟨db', 0, none⟩)) := by rw [← hdb]; exact row_cell hpg7 (j := 5) rfl
 refine ⟨wkb, he7, c75, ?_⟩
 have hd7 := hd1.below hb7
 have hs6 : w.heap.size <= w6.heap.size := by rw [← hz1]; exact hb6.size
 have hs7 : w.heap.size <= w7.heap.size := by rw [← hz1]; exact hb7.size
 have hQl := h.lt.1
 have hRl := h.ru.lt
 have hT : TkNew xs g.mb R Q O wkb [queX s] (tkOf now s bud til) w7 := ⟨hwk, by simp, hq.sz, hb1, hb9, ht0, ht9, fun k e q => by have := hO k e; have := hQl k q; omega, fun k r e => by have := hO k e; have := hRl k r; omega⟩
 refine (dkTake_any hd7 hfu hT).mono ?_
 rintro e w8 ⟨he8, hf8, Q', tv', ls', hD8, hQ'⟩
 have hff : Frm Q (w.setCell ⟨gb, 0, none⟩ (.int .i32 1)) w8 := (Frm.of_below hb7).trans hf8 fun _ _ e => e
 refine ⟨he8, h.after hdb hff hD8 ?_ (fun k e => ?_) rfl⟩
 ·intro i j r hi hr
  have hi2 : D.wk[i]? = some (some j) := hi
  have hj := hd1.ok.wj i j hi2
  have hr2 : (D.rs ++ [lateR D.clock (newR (tkOf now s bud til))])[j]? = some r := hr
  rw [List.getElem?_append_left hj] at hr2
  exact h.dw i j r hi2 hr2
 ·rcases hQ' k e with e | e | e
  ·exact Or.inl e
  ·have h1 := hO k e
   exact Or.inr ⟨by omega, Nat.lt_of_lt_of_le (hwk.lt k e) hf8.size⟩
  ·exact Or.inr ⟨by omega, e.2⟩
theorem KD.hasRu {w : World} {B gb : Nat} {g : Pg} {m : List (Value × Value)} {lo : Nat} {xs now : List ByteArray} {R Q : Nat -> Prop} {D : Dk} (h : KD w B gb g m lo xs now R Q D) {s : ByteArray} (hs : s.size <= maxLen) {w1 : World} (hb : Below w.heap.size (w.setCell ⟨gb, 0, none⟩ (.int .i32 1)) w1) :
  Calls Tryz.prog 47 #[.pointer (some ⟨gb, 0, none⟩), .agg #[.string (queX s).k, .string (queX s).n, .string (queX s).r]] w1 fun e w' => e = .returned (.bool (hasR xs (queX s))) /\ Below w1.heap.size w1 w' := by
 obtain ⟨db', tv, wb, ls, hdb', hd1, hpg1, hru1, htv1, hf1, hz1⟩ := h.lockd
 have hb1 : Below (w.setCell ⟨gb, 0, none⟩ (.int .i32 1)).heap.size (w.setCell ⟨gb, 0, none⟩ (.int .i32 1)) w1 := by rw [hz1]; exact hb
 have hO := que_sizesK s hs
 obtain ⟨m', h1, h2, h3⟩ := hasR_found (show RulesN w1 g.mb xs from ⟨m, lo, (hru1.below hb1).now.1, (hru1.below hb1).now.2⟩) (queX s)
 have := hasRule_any gb { g with lk := 1 } m' h2 (queX s).k (queX s).n (queX s).r hO.1 hO.2.2 w1 (pg_below hpg1 hb1) h1
 rw [h3] at this
 exact this
theorem gSubmit_ok (HN : Hid NodeC) {w : World} {B gb : Nat} {g : Pg} {m : List (Value × Value)} {lo : Nat} {xs now : List ByteArray} {R Q : Nat -> Prop} {D : Dk} (h : KD w B gb g m lo xs now R Q D) (hc : g.cl = false) {s : ByteArray} (hs : s.size <= maxLen) (he : askE xs s = 0) {bud til : Int} (hb1 : 1 <= bud) (hb9 : bud <= 1000000000) (ht0 : 0 <= til) (ht9 : til <= 1000000000) (hfu : fullD D = false) :
  Calls Tryz.prog 27 #[.pointer (some ⟨gb, 0, none⟩), .string s, .int .i64 bud, .int .i64 til] w fun e w' => e = .returned (.tuple #[.int .i64 ((D.rs.length + 1 : Nat) : Int), .int .i64 0]) /\ OpP w B gb g m lo xs now R Q g.cl (fun D' => D' = takeD D (tkOf now s bud til)) w' := by
 obtain ⟨db, tv, wb, ls, hdb, hd1, hpg1, hru1, htv1, hf1, hz1⟩ := h.lockd
 have hl30 : D.rs.length < 30 := by
  unfold fullD at hfu
  rw [Bool.or_eq_false_iff] at hfu
  have := of_decide_eq_false hfu.1
  omega
 have hv : askV xs s = .agg #[.string (queX s).k, .string (queX s).n, .string (queX s).r, .string (queY s).k, .string (queY s).n, .string (queY s).r] := if_pos he
 have HW1 : Hid (∀ w1, Calls Tryz.prog 55 #[.int .i64 bud, .int .i64 1, .int .i64 1000000000] w1 fun e w' => e = .returned (.bool true) /\ w' = w1) := by
  intro w1
  have e : (decide (1 <= bud) && decide (bud <= 1000000000)) = true := by rw [Bool.and_eq_true]; exact ⟨decide_eq_true hb1, decide_eq_true hb9⟩
  have := within_any bud 1 1000000000 w1
  rw [e] at this; exact this
 have HW2 : Hid (∀ w1, Calls Tryz.prog 55 #[.int .i64 til, .int .i64 0, .int .i64 1000000000] w1 fun e w' => e = .returned (.bool true) /\ w' = w1) := by
  intro w1
  have e : (decide (0 <= til) && decide (til <= 1000000000)) = true := by rw [Bool.and_eq_true]; exact ⟨decide_eq_true ht0, decide_eq_true ht9⟩
  have := within_any til 0 1000000000 w1
  rw [e] at this; exact this
 have HRD : Hid (Calls Tryz.prog 41 #[.pointer (some ⟨gb, 0, none⟩), .string s] (w.setCell ⟨gb, 0, none⟩ (.int .i32 1)) fun e w2 => e = .returned (.tuple #[.agg #[.string (queX s).k, .string (queX s).n, .string (queX s).r, .string (queY s).k, .string (queY s).n, .string (queY s).r], .int .i64 0]) /\ Below w.heap.size (w.setCell ⟨gb, 0, none⟩ (.int .i32 1)) w2) := by
  have hr := gateRead2 (xs := xs) (b := gb) (w := w.setCell ⟨gb, 0, none⟩ (.int .i32 1)) s (fun w1 hb => h.hasRu hs (by rw [← hz1]; exact hb)) hs
  rw [hv, he] at hr
  refine hr.mono ?_
  rintro e w2 ⟨h1, h2⟩
  exact ⟨h1, by rw [← hz1]; exact h2⟩
 have HFL : Hid (∀ w3, Below w.heap.size (w.setCell ⟨gb, 0, none⟩ (.int .i32 1)) w3 -> Calls Tryz.prog 58 #[.pointer (some ⟨db, 0, none⟩)] w3 fun e w4 => e = .returned (.bool false) /\ Below w3.heap.size w3 w4) := by
  intro w3 hb
  have := dkFull_any (hd1.below (by rw [hz1]; exact hb))
  rw [hfu] at this; exact this
 have HC5 : Hid (∀ w3, Below w.heap.size (w.setCell ⟨gb, 0, none⟩ (.int .i32 1)) w3 -> w3.cell? ⟨gb, 5, none⟩ = some (.pointer (some ⟨db, 0, none⟩))) := by
  intro w3 hb
  rw [← hdb]
  exact row_cell (pg_below hpg1 (by rw [hz1]; exact hb)) (j := 5) rfl
 have HCH : Hid _ := fun w5 hb => sub_chain HN h hs he hb1 hb9 ht0 ht9 hl30 (w5 := w5) hb hdb
 have h0 := row_cell h.pg (j := 0) rfl
 have f0 := row_frozen h.pg 0
 have c6 := row_cell hpg1 (j := 6) rfl
 have hlk := h.lk
 have hltg := row_lt h.pg
 clear h hd1 hpg1 hru1 htv1 hf1 hfu hv
 obtain ⟨lk, mb, tvg, ver, dk, cl⟩ := g
 dsimp only at hlk hdb hc
 subst hlk
 subst hdb
 subst hc
 generalize OpP w B gb _ m lo xs now R Q _ (fun D' => D' = takeD D (tkOf now s bud til)) = PP at *
 generalize D.rs.length = N at *
 generalize queX s = x at *
 generalize queY s = y at *
 clear he hs hb1 hb9 ht0 ht9 HN
 go_enter_defers Tryz.func27, Tryz.ntmps27
 go_wp2_with (first
  | (go_at_call 51; refine (lock_free Tryz.muLib ⟨gb, 0, none⟩ _ h0 f0).mono ?_; rintro e w1 ⟨rfl, hw1⟩; subst w1)
  | (go_at_call 55; refine (HW1.out _).mono ?_; rintro e w2 ⟨rfl, hw2⟩; subst w2; clear HW1)
  | (go_at_call 55; refine (HW2.out _).mono ?_; rintro e w2 ⟨rfl, hw2⟩; subst w2; clear HW2)
  | (go_at_call 41; refine HRD.out.mono ?_; rintro e w2 ⟨rfl, hb2⟩; have hb3 : Below w.heap.size (w.setCell ⟨gb, 0, none⟩ (.int .i32 1)) (w2.alloc (.cells #[.string x.k, .string x.n, .string x.r, .string y.k, .string y.n, .string y.r] 77)) := hb2.alloc (by rw [← hz1]; exact hb2.size) _; have g5 := HC5.out _ hb3; have HF3 : Hid _ := HFL.out _ hb3)
  | (go_at_call 58; refine (Calls.mono HF3.out) ?_; rintro e w4 ⟨rfl, hb4⟩))
 have hb4' : Below w.heap.size (w.setCell ⟨gb, 0, none⟩ (.int .i32 1)) w4 := hb3.trans (hb4.mono (by rw [← hz1]; exact hb3.size))
 have g54 := HC5.out w4 hb4'
 have hq4 : w4.heap[w2.heap.size]? = some (.cells (queL x y).toArray 77 (0, 0)) := (hb4.block _ (by show w2.heap.size < (w2.heap.push _).size; simp)).trans (alloc_new w2 (queL x y) _)
 have l0 : w4.cell? ⟨w2.heap.size, 0, none⟩ = some (.string x.k) := row_cell hq4 (j := 0) rfl
 have l1 : w4.cell? ⟨w2.heap.size, 1, none⟩ = some (.string x.n) := row_cell hq4 (j := 1) rfl
 have l2 : w4.cell? ⟨w2.heap.size, 2, none⟩ = some (.string x.r) := row_cell hq4 (j := 2) rfl
 have l3 : w4.cell? ⟨w2.heap.size, 3, none⟩ = some (.string y.k) := row_cell hq4 (j := 3) rfl
 have l4 : w4.cell? ⟨w2.heap.size, 4, none⟩ = some (.string y.n) := row_cell hq4 (j := 4) rfl
 have l5 : w4.cell? ⟨w2.heap.size, 5, none⟩ = some (.string y.r) := row_cell hq4 (j := 5) rfl
 have HC4 : Hid (∀ w5, Below w4.heap.size w4 w5 -> Below w.heap.size (w.setCell ⟨gb, 0, none⟩ (.int .i32 1)) w5) := fun w5 hb => hb4'.trans (hb.mono (by rw [← hz1]; exact hb4'.size))
 clear HFL HC5 HRD HF3 hb3 hb2 hb4 hb4' hq4 g5
 refine wp_calm ?_
 go_region_with (first
  | (go_at_call 61; refine (Calls.mono (HCH.out _ (HC4.out _ (by repeat (first | exact Below.refl _ _ | refine Below.setCell ?_ (by first | exact Nat.le_refl _ | (simp; done) | (simp; omega)) _ | refine below_drewN ?_ _ | refine Below.drew ?_ | refine Below.alloc ?_ (by first | exact Nat.le_refl _ | (simp; done) | (simp; omega)) _))))) ?_; rintro e w6 ⟨rfl, k6, HTK⟩; clear HCH HC4)
  | (go_at_call 60; refine (Calls.mono HTK.out) ?_; rintro e w7 ⟨wkb, rfl, k7, HTA⟩; clear HTK)
  | (go_at_call 59; refine (Calls.mono HTA.out) ?_; rintro e w8 ⟨rfl, k0, z0, HP⟩; clear HTA))
 all_goals refine calm_normal ?_
 all_goals go_wp2
 all_goals
  refine leaves_cons (f := 52) (args := #[.pointer (some ⟨gb, 0, none⟩)]) (by simp) (by simp [go_sem]) ?_
  refine (unlock_deferred Tryz.muLib ⟨gb, 0, none⟩ .returning _ k0 z0).mono ?_
  rintro e u' w9 ⟨rfl, rfl, rfl⟩
  exact ⟨.tuple #[.int .i64 ((N + 1 : Nat) : Int), .int .i64 0], by simp [results, Tryz.results27, go_sem], rfl, HP.out⟩
open Go.RowKit Go.Shelf
structure TSt (W : World) (gb : Nat) (n : Int) (now : List ByteArray) (D : Dk) (cl : Bool) (Ls : List (Nat × List Value)) (w : World) : Prop where
 kd : ∃ g m lo R Q, g.cl = cl /\ g.ver <= n /\ KD w W.heap.size gb g m lo krules now R Q D /\ ∀ p ∈ Ls, w.heap[p.1]? = some (.cells p.2.toArray 51 (0, 0)) /\ ¬ Q p.1 /\ ¬ R p.1 /\ p.1 ≠ gb
 below : Below W.heap.size W w
theorem TSt.later {W : World} {gb : Nat} {n : Int} {now : List ByteArray} {D : Dk} {cl : Bool} {Ls : List (Nat × List Value)} {w w' : World} (h : TSt W gb n now D cl Ls w) (hb : Below w.heap.size w w') : TSt W gb n now D cl Ls w' := by
 obtain ⟨g, m, lo, R, Q, h1, h2, h3, h4⟩ := h.kd
 exact ⟨⟨g, m, lo, R, Q, h1, h2, h3.later hb, fun p hp => ⟨(hb.block _ (row_lt (h4 p hp).1)).trans (h4 p hp).1, (h4 p hp).2⟩⟩, h.below.trans (hb.mono h.below.size)⟩
theorem t_open (HN : Hid NodeC) (HW : Hid TWayC) (W : World) (wk : Nat) (qu : Int) (h1 : 1 <= wk) (h2 : wk <= 4) (h3 : 1 <= qu) (h4 : qu <= 6) : Calls Tryz.prog 14 #[.int .i64 wk, .int .i64 qu] W fun e w' => ∃ gb, e = .returned (.pointer (some ⟨gb, 0, none⟩)) /\ TSt W gb 1 know0 (newD wk qu) false [] w' := by
 refine (kOpenD HN HW W wk qu h1 h2 h3 h4).mono ?_
 rintro e w' ⟨gb, g, m, lo, R, Q, rfl, hb, hv, hc, kd⟩
 exact ⟨gb, rfl, ⟨g, m, lo, R, Q, hc, by omega, kd, (fun p hp => by cases hp)⟩, hb⟩
theorem lateR_new {c : Int} {t : Tk} (h : ¬ t.til <= c) : lateR c (newR t) = newR t := lateR_not (t := t) rfl h
def stL (is : Int) (st : Nat) (al : Bool) (v : Value) : List Value := [.int .i64 is, .int .i64 st, .bool al, v]
def putL (cs : List Int) (k : Nat) : List ByteArray := (cs.take k).map kOf
theorem putL_next {cs : List Int} {k : Nat} {c : Int} (h : cs[k]? = some c) : putL cs (k + 1) = putL cs k ++ [kOf c] := by
 unfold putL
 obtain ⟨h1, h2⟩ := List.getElem?_eq_some_iff.1 h
 rw [List.take_succ_eq_append_getElem h1, h2, List.map_append]; rfl
theorem putL_len (cs : List Int) (k : Nat) : (putL cs k).length <= k := by
 unfold putL; rw [List.length_map, List.length_take]; omega
theorem KD.grown {w3 w4 : World} {B gb : Nat} {g : Pg} {m : List (Value × Value)} {lo base n : Nat} {us : List Value} {xs now : List ByteArray} {R Q : Nat -> Prop} {D : Dk} {lv : Value} (h : KD w3 B gb g m lo xs now R Q D) (hc : g.cl = false) (hg : w3.grownBy w4 lv.ownBlock) (hrow : w3.ownsRow base 9 1 lv n us) (hne : ∀ j, lv.ownBlock = some j -> g.tv.ownBlock ≠ some j) (hq : ∀ j, lv.ownBlock = some j -> ¬ Q j /\ ¬ R j) : KD w4 B gb g m lo xs now R Q D := by
 have kg := kg_grown (h.kg hc) hg hrow hne
 obtain ⟨db, tv, wb, ls, h1, hd⟩ := h.dk
 exact { h with pg := kg.pg, ru := h.ru.to hg.size fun k hk => hg.block k (h.ru.lt k hk) fun e => (hq k e.symm).2 hk, tv := kg.tv, dk := ⟨db, tv, wb, ls, h1, hd.keep hg.size (fun k hk => hg.block k (hd.lt k hk) fun e => (hq k e.symm).1 hk) (fun k hk => hg.block k (hd.ru.lt k hk) fun e => (hq k e.symm).2 hk)⟩ }
structure PutD (R Q : Nat -> Prop) (D : Dk) (w : World) (B gb : Nat) (ver : Int) (m : List (Value × Value)) (lo : Nat) (xs now l : List ByteArray) (lv : Value) (wr : World) : Prop where
 own : wr.ownsRow w.heap.size 9 1 lv l.length (strV l)
 kd : ∃ g, g.ver = ver + l.length /\ g.cl = false /\ KD wr B gb g m lo xs (putN now l) R Q D
 kept : w.grownBy wr (some gb)
 lt : ∀ k, Q k \/ R k -> k < w.heap.size
theorem PutD.step {R Q : Nat -> Prop} {D : Dk} {w : World} {B gb : Nat} {ver : Int} {m : List (Value × Value)} {lo : Nat} {xs now l : List ByteArray} {lv : Value} {wr : World} (h : PutD R Q D w B gb ver m lo xs now l lv wr) (hs0 : Sorted now) (hn : now.length + l.length <= 49) (hv0 : 0 <= ver) (hv : ver <= 900000) (hgb : gb < w.heap.size) (s : ByteArray) (HF : Hid (faultS (ruleOfs xs) (⟨#[43]⟩ ++ s) = 0)) (hsz : (⟨#[43]⟩ ++ s : ByteArray).size <= 100) {w2 : World} (hb : Below wr.heap.size wr w2) :
  Calls Tryz.prog 24 #[.pointer (some ⟨gb, 0, none⟩), .slice (some ⟨w2.heap.size, 0, none⟩) 1 1] (w2.alloc (.cells #[.string (⟨#[43]⟩ ++ s)] 9)) fun e w3 => ∃ n : Int, e = .returned (.tuple #[.int .i64 n, .int .i64 0, .int .i64 0]) /\
   ∃ v' w4, (Builtin.append_ #[28, 28] 28 #[lv, .slice (some ⟨w3.heap.size, 0, none⟩) 1 1]).run Tryz.prog (w3.alloc (.cells #[.string (s)] 9)) = .ok v' w4 /\ Hid (PutD R Q D w B gb ver m lo xs now (l ++ [s]) v' w4) := by
 obtain ⟨g, hg, hcl, kd⟩ := h.kd
 obtain ⟨p1, p2, p3⟩ := putN_ok l now hs0
 have hb2 : Below wr.heap.size wr (w2.alloc (.cells #[.string (⟨#[43]⟩ ++ s)] 9)) := hb.alloc hb.size _
 have hws : w.heap.size <= wr.heap.size := h.kept.size
 have hdo : doneS (putN now l) (⟨#[43]⟩ ++ s) = putN now (l ++ [s]) := by rw [plus_done, putN_snoc]
 obtain ⟨q1, q2, q3⟩ := putN_ok (l ++ [s]) now hs0
 rw [List.length_append] at q2
 have q2 : (putN now (l ++ [s])).length <= now.length + (l.length + 1) := q2
 refine (((kd.later hb2).kg hcl).write1 (by rw [hg]; omega) (s := ⟨#[43]⟩ ++ s) (by omega) HF.out (by rw [hdo]; omega) (by rw [hdo]; exact q1) w2.heap.size 1 (by have := hb.size; omega) (row_cell (alloc_new w2 [.string (⟨#[43]⟩ ++ s)] _) (j := 0) rfl)).mono ?_
 rintro e w3 ⟨rfl, hk, v, hvb, kg'⟩
 have kd' := (kd.later hb2).wrote hk hvb kg'
 refine ⟨_, rfl, ?_⟩
 have hrow : w3.ownsRow w.heap.size 9 1 lv l.length (strV l) := owns_to (owns_below h.own hb2) fun k hkk => by
  obtain ⟨a, b, -⟩ := owns_lt (owns_below h.own hb2) k hkk
  exact hk.block k a (by intro e; injection e with e; omega)
 have hs3 : w.heap.size <= w3.heap.size := Nat.le_trans (Nat.le_trans hws hb2.size) hk.size
 have hkept3 : w.grownBy w3 (some gb) := kept_then h.kept hb2 hk
 obtain ⟨v', w4, hr, ho, hgr, hv'⟩ := app_strF w3 w.heap.size lv l.length l (s) hrow hs3 (by omega)
 refine ⟨v', w4, hr, ?_, ?_, ?_, h.lt⟩
 ·rw [List.length_append]; exact ho
 ·refine ⟨{ g with tv := v, ver := g.ver + 1 }, ?_, hcl, ?_⟩
  ·rw [List.length_append, hg]
   show ver + (l.length : Int) + 1 = ver + ((l.length + 1 : Nat) : Int)
   omega
  ·rw [← hdo]
   refine kd'.grown hcl hgr hrow (fun j hj hj2 => ?_) (fun j hj => ⟨fun e => ?_, fun e => ?_⟩)
   ·have h1 := (owns_lt h.own j hj).1
    have h2 := hvb j hj2
    have h3 := hb2.size
    omega
   ·have h1 := (owns_lt h.own j hj).2.1
    have h2 := h.lt j (Or.inl e)
    omega
   ·have h1 := (owns_lt h.own j hj).2.1
    have h2 := h.lt j (Or.inr e)
    omega
 ·exact kept_row hkept3 hgr hrow
def PutPD (R Q : Nat -> Prop) (D : Dk) (w : World) (B gb : Nat) (ver : Int) (m : List (Value × Value)) (lo : Nat) (now : List ByteArray) (cs : List Int) (most : Nat) (e : Ending) (w' : World) : Prop :=
 ∃ o c, e = .returned (.tuple #[.slice o (putL cs most).length c, .bool true]) /\ PutD R Q D w B gb ver m lo krules now (putL cs most) (.slice o (putL cs most).length c) w'
theorem kPutD {R Q : Nat -> Prop} {D : Dk} {w : World} {B gb : Nat} {g : Pg} {m : List (Value × Value)} {lo : Nat} {now : List ByteArray} (kg : KD w B gb g m lo krules now R Q D) (hcl : g.cl = false) (hver : g.ver <= 900000) (most : Nat) (hm : most <= 40) (hn : now.length + most <= 50) {rv : Value} {cs : List Int} (hr : IntsAt w rv cs) (hB : ∀ b off n cap, rv = .slice (some ⟨b, off, none⟩) n cap -> n ≠ 0 -> b ≠ gb) (hcs : ∀ c ∈ cs, -9223372036854775808 <= c /\ c <= 9223372036854775807) (hl : cs.length <= 9223372036854775807) :
  Calls Tryz.prog 15 #[.pointer (some ⟨gb, 0, none⟩), rv, .int .i64 (most : Nat)] w (PutPD R Q D w B gb g.ver m lo now cs most) := by
 obtain ⟨rx, rc, hrv, HC⟩ : ∃ rx rc, rv = .slice rx cs.length rc /\ Hid (∀ (i : Nat) (c : Int), cs[i]? = some c -> ∃ b off, rx = some ⟨b, off, none⟩ /\ b ≠ gb /\ b < w.heap.size /\ w.cell? ⟨b, off + i, none⟩ = some (.int .i64 c)) := by
  rcases hr with ⟨⟨x, c, rfl⟩, rfl⟩ | ⟨b, off, cap, rfl, hb, hc⟩
  ·exact ⟨x, c, rfl, fun i c h => by simp at h⟩
  ·exact ⟨_, cap, rfl, fun i c h => ⟨b, off, rfl, hB b off _ cap rfl (by have := (List.getElem?_eq_some_iff.1 h).1; omega), hb, hc i c h⟩⟩
 subst hrv
 have HST : Hid (PutD R Q D w B gb g.ver m lo krules now (putL cs 0) (.slice none 0 0) w) := ⟨World.ownsRow_nil _ _ _ _, ⟨g, by simp [putL], hcl, kg⟩, ⟨rfl, rfl, rfl, Nat.le_refl _, fun _ _ _ => rfl⟩, fun k e => e.elim (kg.lt.1 k) (kg.ru.lt k)⟩
 have HSO : Hid (Sorted now) := kg.sorted
 have HV0 : Hid (0 <= g.ver) := kg.ver0
 have HGB : Hid (gb < w.heap.size) := row_lt kg.pg
 have HCS : Hid (∀ c ∈ cs, -9223372036854775808 <= c /\ c <= 9223372036854775807) := hcs
 have HVR : Hid (g.ver <= 900000) := hver
 have HFT : Hid (∀ c, faultS (ruleOfs krules) (⟨#[43]⟩ ++ kOf c) = 0 /\ (⟨#[43]⟩ ++ kOf c).size <= 100) := kOf_ok
 have HEQ : Hid (∀ k : Nat, ¬ k < cs.length -> k <= most -> putL cs k = putL cs most) := by
  intro k h1 h2
  unfold putL
  rw [List.take_of_length_le (by omega), List.take_of_length_le (by omega)]
 have HFIN : Hid (∀ (o : Option Addr) (c n : Nat) (wr : World), n = (putL cs most).length -> PutD R Q D w B gb g.ver m lo krules now (putL cs most) (.slice o n c) wr -> PutPD R Q D w B gb g.ver m lo now cs most (.returned (.tuple #[.slice o n c, .bool true])) wr) := by
  rintro o c n wr rfl h
  exact ⟨o, c, rfl, h⟩
 generalize PutPD R Q D w B gb g.ver m lo now cs most = P at *
 generalize g.ver = ver at *
 clear hr hB hcs kg hver hcl
 obtain ⟨N, hN⟩ : ∃ N, cs.length = N := ⟨_, rfl⟩
 have HN : Hid (cs.length = N) := hN
 rw [hN] at hl HEQ ⊢
 clear hN
 generalize krules = xs at *
 go_enter Tryz.func15, Tryz.ntmps15
 go_wp2
 go_loopw [8, 9] (fun lv i wr => ∃ (k : Nat) (o : Option Addr) (c n : Nat), lv = .slice o n c /\ n = (putL cs k).length /\ i = .int .i64 k /\ k <= most /\ k <= N /\ PutD R Q D w B gb ver m lo xs now (putL cs k) lv wr) (fun _ i _ => most - (intOf i).toNat)
 case atStart => exact ⟨0, none, 0, 0, rfl, by simp [putL], rfl, Nat.zero_le _, Nat.zero_le _, HST.out⟩
 case round =>
  obtain ⟨k, o, c, n, rfl, hnl, rfl, hkm, hkN, hI⟩ := hrel
  clear HST
  have HNL : Hid (n = (putL cs k).length) := hnl
  have HI : Hid (PutD R Q D w B gb ver m lo xs now (putL cs k) (.slice o n c) wr) := hI
  clear hnl hI
  by_cases hlt : k < N
  ·by_cases hlm : k < most
   ·obtain ⟨x, hx⟩ : ∃ x, cs[k]? = some x := ⟨_, List.getElem?_eq_getElem (by have := HN.out; omega)⟩
    obtain ⟨b, off, hrx, hbn, hbl, hcx0⟩ := HC.out k x hx
    subst hrx
    have hcx : wr.cell? ⟨b, off + k, none⟩ = some (.int .i64 x) := (World.cell?_of_block (a := ⟨b, off + k, none⟩) (HI.out.kept.block b hbl (by intro e; injection e with e; exact hbn e))).trans hcx0
    obtain ⟨hx1, hx2⟩ := HCS.out x (List.mem_of_getElem? hx)
    have HTP : Hid (Calls Tryz.prog 39 #[.int .i64 x] wr fun e w' => e = .returned (.string (kOf x)) /\ Below wr.heap.size wr w') := kTuple_any x wr hx1 hx2
    obtain ⟨hft, hfs⟩ := HFT.out x
    have HF1 : Hid (faultS (ruleOfs xs) (⟨#[43]⟩ ++ kOf x) = 0) := hft
    clear hft
    have hpl := putL_len cs k
    have HWR : Hid (∀ w2, Below wr.heap.size wr w2 -> Calls Tryz.prog 24 #[.pointer (some ⟨gb, 0, none⟩), .slice (some ⟨w2.heap.size, 0, none⟩) 1 1] (w2.alloc (.cells #[.string (⟨#[43]⟩ ++ kOf x)] 9)) _) := fun w2 hb => HI.out.step HSO.out (by omega) HV0.out HVR.out HGB.out (kOf x) HF1 hfs hb
    have HNX : Hid (putL cs (k + 1) = putL cs k ++ [kOf x]) := putL_next hx
    have hs9 : (kOf x).size <= 99 := by
     have e : (⟨#[43]⟩ ++ kOf x : ByteArray).size = 1 + (kOf x).size := by simp; rfl
     omega
    clear hcx0 hx hfs hx1 hx2 HFT HCS HC
    generalize kOf x = s at *
    go_wp2_with (first | (go_at_call 39; refine HTP.out.mono ?_; rintro e w2 ⟨rfl, hb2⟩; have HB2 : Hid (Below wr.heap.size wr w2) := hb2; clear hb2) | (go_at_call 24; refine (HWR.out _ HB2.out).mono ?_; rintro e w3 ⟨vn, rfl, v4, w4, hr4, HI4⟩) | (at_builtin; refine wpList_app_run rfl (.tmp 41) (.tmp 43) 28 rfl _ _ _ rfl rfl hr4 ?_))
    obtain ⟨o4, c4, hv4⟩ := owns_form HI4.out.own
    subst hv4
    go_roundw
    case rel => exact ⟨k + 1, o4, c4, _, rfl, by rw [HNX.out], by go_num, by omega, by omega, by rw [HNX.out]; exact HI4.out⟩
    case measure => simp [intOf]; omega
   ·obtain rfl : k = most := by omega
    have HP : Hid (P (.returned (.tuple #[.slice o n c, .bool true])) wr) := HFIN.out o c n wr HNL.out HI.out
    clear HI HC HCS HFT
    go_wp2
    exact HP.out
  ·obtain rfl : k = N := by omega
   have HP : Hid (P (.returned (.tuple #[.slice o n c, .bool true])) wr) := by
    have e := HEQ.out k (by omega) hkm
    have h1 := HI.out
    have h2 := HNL.out
    rw [e] at h1 h2
    exact HFIN.out o c n wr h2 h1
   clear HI HC HCS HFT
   go_wp2
   exact HP.out
def gN (a : Nat) : Nod := ⟨groupB, letS a, memberB⟩
def uN (b : Nat) : Nod := ⟨userB, letS b, noneB⟩
def kNode (k a : Nat) : Nod := if k <= 3 then gN a else ⟨docB, letS a, if k = 4 then parentB else if k = 5 then readerB else if k = 6 then ownerB else if k = 7 then trustedB else bothB⟩
def kSubj (k b : Nat) : Nod := if k = 0 \/ k = 1 \/ k = 6 \/ k = 8 then uN b else if k = 4 then ⟨docB, letS b, noneB⟩ else gN b
theorem let_name : ∀ a, a < 4 -> nameL (letS a).data.toList = true := by decide +kernel
theorem let_name' (a : Nat) : nameL (letS a).data.toList = true := by rw [letS_mod]; exact let_name _ (by omega)
theorem mk_data (b : ByteArray) : mk b.data.toList = b := by
 refine bytes_ext ?_
 simp [mk]
theorem gN_nm (a : Nat) : NmN (gN a) groupB.data.toList (letS a).data.toList (some memberB.data.toList) := by
 refine ⟨?_, by decide +kernel, let_name' a, fun r hr => by cases hr; decide +kernel⟩
 show gN a = ⟨mk groupB.data.toList, mk (letS a).data.toList, mk memberB.data.toList⟩
 rw [mk_data, mk_data, mk_data]; rfl
theorem uN_nm (a : Nat) : NmN (uN a) userB.data.toList (letS a).data.toList none := by
 refine ⟨?_, by decide +kernel, let_name' a, fun r hr => by cases hr⟩
 show uN a = ⟨mk userB.data.toList, mk (letS a).data.toList, noneB⟩
 rw [mk_data, mk_data]; rfl
theorem tpOf_tupT {x y : Nod} {k n r k2 n2 : List UInt8} {o : Option (List UInt8)} (hx : NmN x k n (some r)) (hy : NmN y k2 n2 o) : tpOf (tupT x y) = (x, y) := by
 have hd : TupD (tupT x y).data.toList k n r k2 n2 o := ⟨by rw [tupT_mk hx hy, mk_list], hx.hk, hx.hn, hx.ho r rfl, hy.hk, hy.hn, hy.ho⟩
 obtain ⟨-, h1, h2⟩ := tup_of (tupT x y) k n r k2 n2 o hd
 have a1 : (tpOf (tupT x y)).1 = x := by unfold tpOf ndOf; rw [h1, hx.e]; rfl
 have a2 : (tpOf (tupT x y)).2 = y := by unfold tpOf ndOf; rw [h2, hy.e]
 exact Prod.ext a1 a2
theorem dN_nm {r : ByteArray} (hr : nameL r.data.toList = true) (a : Nat) : NmN ⟨docB, letS a, r⟩ docB.data.toList (letS a).data.toList (some r.data.toList) := by
 refine ⟨?_, by decide +kernel, let_name' a, fun z hz => by cases hz; exact hr⟩
 show (⟨docB, letS a, r⟩ : Nod) = ⟨mk docB.data.toList, mk (letS a).data.toList, mk r.data.toList⟩
 rw [mk_data, mk_data, mk_data]
theorem dT_nm (a : Nat) : NmN ⟨docB, letS a, noneB⟩ docB.data.toList (letS a).data.toList none := by
 refine ⟨?_, by decide +kernel, let_name' a, fun z hz => by cases hz⟩
 show (⟨docB, letS a, noneB⟩ : Nod) = ⟨mk docB.data.toList, mk (letS a).data.toList, noneB⟩
 rw [mk_data, mk_data]
theorem kT_at {x y : Nod} {k n r k2 n2 : List UInt8} {o : Option (List UInt8)} (hx : NmN x k n (some r)) (hy : NmN y k2 n2 o) {s : ByteArray} (hs : s.data.toList = k ++ 58 :: (n ++ 35 :: (r ++ 64 :: (k2 ++ 58 :: (n2 ++ otail o))))) : tpOf s = (x, y) := by
 have e : s = tupT x y := by rw [tupT_mk hx hy]; exact eq_mk hs
 rw [e]; exact tpOf_tupT hx hy
theorem kT_tp (k a b : Nat) (hk : k < 9) : tpOf (kT k a b) = (kNode k a, kSubj k b) := by
 have h : k = 0 \/ k = 1 \/ k = 2 \/ k = 3 \/ k = 4 \/ k = 5 \/ k = 6 \/ k = 7 \/ k = 8 := by omega
 rcases h with rfl | rfl | rfl | rfl | rfl | rfl | rfl | rfl | rfl
 ·exact kT_at (gN_nm a) (uN_nm b) (by simp [kT, kPre, kMid, kEnd, groupB, memberB, userB, otail])
 ·exact kT_at (gN_nm a) (uN_nm b) (by simp [kT, kPre, kMid, kEnd, groupB, memberB, userB, otail])
 ·exact kT_at (gN_nm a) (gN_nm b) (by simp [kT, kPre, kMid, kEnd, groupB, memberB, otail])
 ·exact kT_at (gN_nm a) (gN_nm b) (by simp [kT, kPre, kMid, kEnd, groupB, memberB, otail])
 ·exact kT_at (dN_nm (r := parentB) (by decide +kernel) a) (dT_nm b) (by simp [kT, kPre, kMid, kEnd, docB, parentB, otail])
 ·exact kT_at (dN_nm (r := readerB) (by decide +kernel) a) (gN_nm b) (by simp [kT, kPre, kMid, kEnd, docB, readerB, groupB, memberB, otail])
 ·exact kT_at (dN_nm (r := ownerB) (by decide +kernel) a) (uN_nm b) (by simp [kT, kPre, kMid, kEnd, docB, ownerB, userB, otail])
 ·exact kT_at (dN_nm (r := trustedB) (by decide +kernel) a) (gN_nm b) (by simp [kT, kPre, kMid, kEnd, docB, trustedB, groupB, memberB, otail])
 ·exact kT_at (dN_nm (r := bothB) (by decide +kernel) a) (uN_nm b) (by simp [kT, kPre, kMid, kEnd, docB, bothB, userB, otail])
structure HeldT (l now : List ByteArray) : Prop where
 ht : ∀ s ∈ now, tupOk s = true
 mem : ∀ s, s ∈ now ↔ s ∈ know0 \/ s ∈ l
 ks : ∀ s ∈ l, ∃ k a b, k < 9 /\ s = kT k a b
def WhoK (xs now : List ByteArray) (s : ByteArray) (w : World) (e : Ending) (w' : World) : Prop :=
 ∃ o n c, ∃ er : Int, e = .returned (.tuple #[.slice o n c, .bool (er == 0)]) /\ Below w.heap.size w w' /\ er = (if queOk s = false \/ queC s = true then 4 else if hasR xs (queX s) = false then 5 else 0) /\ ∃ zs : List ByteArray, n = zs.length /\ Sorted zs /\ zs.length <= 50 /\ w'.ownsRow w.heap.size 9 1 (.slice o n c) zs.length (strV zs) /\ if er = 0 then (∀ z, z ∈ zs ↔ ∃ u, InN (tsOf now) xs u (queX s) /\ thT u = z) else o = none /\ n = 0 /\ c = 0
theorem kWho_any {xs now : List ByteArray} {s : ByteArray} {w : World} {b : Nat} (HX : Hid (Calls Tryz.prog 40 #[.pointer (some ⟨b, 0, none⟩), .string s] w (ExpandP xs now s w))) :
  Calls Tryz.prog 19 #[.pointer (some ⟨b, 0, none⟩), .string s] w (WhoK xs now s w) := by
 have HX2 : Hid (Calls Tryz.prog 40 #[.pointer (some ⟨b, 0, none⟩), .string s] w fun e w' => ∃ o c, ∃ er : Int, ∃ zs : List ByteArray, e = .returned (.tuple #[.slice o zs.length c, .int .i64 er]) /\ zs.length <= 50 /\ Hid (Sorted zs) /\ Hid (StrsAt w' (.slice o zs.length c) zs) /\ Hid (∀ d, WhoK xs now s w (.returned (.tuple #[.slice o zs.length c, .bool (er == 0)])) (w'.drewN d))) := by
  refine HX.out.mono ?_
  rintro e w' ⟨o, n, c, er, rfl, hb, he, zs, rfl, hso, hzl, hown, hz⟩
  exact ⟨o, c, er, zs, rfl, hzl, hso, owns_strs hown, fun d => ⟨o, _, c, er, rfl, hb.trans ((below_draw ⟨d, rfl⟩).mono hb.size), he, zs, rfl, hso, hzl, owns_below hown (below_draw ⟨d, rfl⟩), hz⟩⟩
 clear HX
 generalize WhoK xs now s w = P at *
 go_enter Tryz.func19, Tryz.ntmps19
 go_wp2_with (go_at_call 40; refine HX2.out.mono ?_; rintro e w1 ⟨o, c, er, zs, rfl, hzl, HSO, HST, HP⟩)
 go_loopw [8] (fun i wr => ∃ k d : Nat, 1 <= k /\ (k <= zs.length \/ k = 1) /\ i = .int .i64 k /\ wr = w1.drewN d) (fun i _ => 51 - (intOf i).toNat)
 case atStart => exact ⟨1, 0, Nat.le_refl _, Or.inr rfl, rfl, rfl⟩
 case round =>
  obtain ⟨k, d, hk1, hk2, rfl, rfl⟩ := hrel
  by_cases hlt : k < zs.length
  ·obtain ⟨x, hx⟩ : ∃ x, zs[k - 1]? = some x := ⟨_, List.getElem?_eq_getElem (by omega)⟩
   obtain ⟨y, hy⟩ : ∃ y, zs[k]? = some y := ⟨_, List.getElem?_eq_getElem hlt⟩
   have hxy : ltB x y = true := sorted_lt HSO.out (by omega) hx hy
   unfold ltB at hxy
   obtain ⟨g, f, ho, hc1, hc2⟩ : ∃ g f, o = some ⟨g, f, none⟩ /\ w1.cell? ⟨g, f + (k - 1), none⟩ = some (.string x) /\ w1.cell? ⟨g, f + k, none⟩ = some (.string y) := by
    rcases HST.out with ⟨-, e⟩ | ⟨b, off, cap, e, hcc⟩
    ·rw [e] at hlt; simp at hlt
    ·injection e with e _ _
     exact ⟨b, off, e, hcc _ _ hx, hcc _ _ hy⟩
   subst ho
   have hk3 : ((k : Int) - 1) = ((k - 1 : Nat) : Int) := by omega
   have hk4 : k - 1 < zs.length := by omega
   clear hx hy
   go_wp2
   go_quiet (fail)
   go_wp2
   go_roundw
   case rel => exact ⟨k + 1, d + nq, by omega, by omega, by go_num, rfl⟩
   case measure => simp [intOf]; omega
  ·go_wp2
   exact HP.out d
def kSuf (k : Nat) : ByteArray := if k = 0 then ⟨#[35, 109, 101, 109, 98, 101, 114]⟩ else if k = 1 then ⟨#[35, 114, 101, 97, 100, 101, 114]⟩ else if k = 2 then ⟨#[35, 101, 100, 105, 116, 111, 114]⟩ else if k = 3 then ⟨#[35, 111, 119, 110, 101, 114]⟩ else if k = 4 then ⟨#[35, 98, 111, 116, 104]⟩ else ⟨#[35, 112, 97, 114, 101, 110, 116]⟩
def kNd (k a : Nat) : ByteArray := (if k = 0 then ⟨#[103, 114, 111, 117, 112, 58]⟩ else ⟨#[100, 111, 99, 58]⟩) ++ letS a ++ kSuf k
def kRel (k : Nat) : ByteArray := if k = 0 then memberB else if k = 1 then readerB else if k = 2 then editorB else if k = 3 then ownerB else if k = 4 then bothB else parentB
def kNN (k a : Nat) : Nod := ⟨if k = 0 then groupB else docB, letS a, kRel k⟩
theorem kNode_k (c : Int) (v k : Nat) (w : World) (hp : Calls Tryz.prog 17 #[.int .i64 c, .int .i64 1099511627776] w fun e w' => e = .returned (.int .i64 (v : Nat)) /\ w' = w) (hk : k < 6) (hm : v % 6 = k) (hv : v <= 1099511627776) :
  Calls Tryz.prog 22 #[.int .i64 c] w fun e w' => e = .returned (.string (kNd k (v / 16))) /\ Below w.heap.size w w' := by
 have q16 : (v : Int).tdiv 16 = ((v / 16 : Nat) : Int) := quo_nat v 16
 have r6 : (v : Int).tmod 6 = ((v % 6 : Nat) : Int) := rem_nat v 6
 have HA : Hid (∀ w1, Calls Tryz.prog 16 #[.int .i64 ((v / 16 : Nat) : Int)] w1 fun e w' => e = .returned (.string (letS (v / 16))) /\ Below w1.heap.size w1 w') := fun w1 => letter_any (v / 16) w1 (by omega)
 have sa := letS_size (v / 16)
 have w16 : wrap64 ((v / 16 : Nat) : Int) = ((v / 16 : Nat) : Int) := wrap_small (by omega) (by omega)
 have HT : Hid (kNd k (v / 16) = (if k = 0 then ⟨#[103, 114, 111, 117, 112, 58]⟩ else ⟨#[100, 111, 99, 58]⟩) ++ letS (v / 16) ++ kSuf k) := rfl
 rw [hm] at r6
 generalize kNd k (v / 16) = T at *
 generalize letS (v / 16) = la at *
 generalize ((v / 16 : Nat) : Int) = n16 at *
 clear hm
 have hcs : k = 0 \/ k = 1 \/ k = 2 \/ k = 3 \/ k = 4 \/ k = 5 := by omega
 clear hk
 rcases hcs with rfl | rfl | rfl | rfl | rfl | rfl
 all_goals
  go_enter Tryz.func22, Tryz.ntmps22
  go_wp2_with (first | (go_at_call 17; refine hp.mono ?_; rintro e w1 ⟨rfl, rfl⟩) | (go_at_call 16; refine (HA.out _).mono ?_; rintro e w2 ⟨rfl, hb2⟩))
  go_ret
  refine ⟨?_, hb2⟩
  rw [HT.out]
  rfl
theorem kNN_nm (k a : Nat) (hk : k < 6) : ∃ kk rr, NmN (kNN k a) kk (letS a).data.toList (some rr) /\ (kNd k a).data.toList = kk ++ 58 :: ((letS a).data.toList ++ 35 :: rr) := by
 have h : k = 0 \/ k = 1 \/ k = 2 \/ k = 3 \/ k = 4 \/ k = 5 := by omega
 rcases h with rfl | rfl | rfl | rfl | rfl | rfl
 ·exact ⟨_, _, gN_nm a, by simp [kNd, kSuf, groupB, memberB]⟩
 ·exact ⟨_, _, dN_nm (r := readerB) (by decide +kernel) a, by simp [kNd, kSuf, docB, readerB]⟩
 ·exact ⟨_, _, dN_nm (r := editorB) (by decide +kernel) a, by simp [kNd, kSuf, docB, editorB]⟩
 ·exact ⟨_, _, dN_nm (r := ownerB) (by decide +kernel) a, by simp [kNd, kSuf, docB, ownerB]⟩
 ·exact ⟨_, _, dN_nm (r := bothB) (by decide +kernel) a, by simp [kNd, kSuf, docB, bothB]⟩
 ·exact ⟨_, _, dN_nm (r := parentB) (by decide +kernel) a, by simp [kNd, kSuf, docB, parentB]⟩
theorem kNN_has0 : ∀ k, k < 6 -> hasR krules (kNN k 0) = true := by decide +kernel
theorem kNd_que (k a : Nat) (hk : k < 6) : queOk (kNd k a) = true /\ queC (kNd k a) = false /\ queX (kNd k a) = kNN k a /\ hasR krules (queX (kNd k a)) = true /\ (kNd k a).size <= maxLen := by
 obtain ⟨kk, rr, h, ht⟩ := kNN_nm k a hk
 obtain ⟨h1, h2, h3, -⟩ := que_no h.hk h.hn (h.ho _ rfl) ht
 have hx : queX (kNd k a) = kNN k a := by rw [h3, h.e]; rfl
 refine ⟨h1, h2, hx, ?_, ?_⟩
 ·rw [hx]
  have e : hasR krules (kNN k a) = hasR krules (kNN k 0) := rfl
  rw [e]; exact kNN_has0 k hk
 ·have e : (kNd k a).size = (kNd k a).data.toList.length := by rw [Array.length_toList]; rfl
  rw [e, ht]
  have a1 := nameL_len h.hk
  have a2 := nameL_len h.hn
  have a3 := nameL_len (h.ho _ rfl)
  have := big_max
  simp only [List.length_append, List.length_cons]
  omega
def zX : Nod := ⟨groupB, zB, memberB⟩
theorem letS_zB : ∀ b, b < 4 -> letS b ≠ zB := by decide +kernel
theorem kNode_n (k a : Nat) : (kNode k a).n = letS a := by
 unfold kNode
 split <;> rfl
theorem z_names {l now : List ByteArray} (h : HeldT l now) : namesN (tsOf now) (ruleN krules) zX = [] := by
 unfold namesN
 rw [List.filter_eq_nil_iff]
 intro y hy
 have e : ruleN krules zX = thisW := kr_member zB
 rw [e] at hy
 have e2 : namedW (tsOf now) zX thisW = subsOf (tsOf now) zX := by simp [thisW, namedW, isLeaf, leafW]
 rw [e2, mem_subsOf] at hy
 obtain ⟨s, hs, es⟩ := List.mem_map.1 hy
 rcases (h.mem s).1 hs with hs | hs
 ·have h0 : tpOf s ∈ tsOf know0 := List.mem_map.2 ⟨s, hs, rfl⟩
  rw [es, know0_ts] at h0
  simp only [List.mem_cons, Prod.mk.injEq, List.not_mem_nil, or_false] at h0
  rcases h0 with ⟨e1, -⟩ | ⟨-, e1⟩
  ·exfalso
   revert e1
   show zX = _ -> False
   decide +kernel
  ·rw [e1]; decide +kernel
 ·obtain ⟨k, a', b', hk, rfl⟩ := h.ks s hs
  rw [kT_tp k a' b' hk] at es
  injection es with e1 _
  have := congrArg Nod.n e1
  rw [kNode_n, letS_mod] at this
  exact absurd this (letS_zB _ (Nat.mod_lt _ (by decide)))
theorem z_cost {l now : List ByteArray} (h : HeldT l now) : CostN krules now zX 1 := by
 refine ⟨[zX], by simp, fun y => ?_, rfl⟩
 rw [List.mem_singleton]
 constructor
 ·intro e; rw [e]; exact Rch.here
 ·intro hr
  refine Rch.in (S := fun y => y = zX) (fun x hx y hy => ?_) rfl hr
  rw [hx, z_names h] at hy
  cases hy
theorem askE_of {s : ByteArray} (h1 : queOk s = true) (h2 : hasR krules (queX s) = true) : askE krules s = 0 := by
 unfold askE; rw [h1, h2]; rfl
theorem nd_ok {k : Nat} (hk : k < 6) (a : Nat) : askE krules (kNd k a) = 0 /\ queX (kNd k a) = kNN k a /\ (kNd k a).size <= maxLen := by
 obtain ⟨q1, q2, q3, q4, q5⟩ := kNd_que k a hk
 exact ⟨askE_of q1 q4, q3, q5⟩
theorem kNN_z {k : Nat} (a : Nat) : kNN k a ≠ zX := by
 intro e
 have h1 : letS a = zB := congrArg Nod.n e
 rw [letS_mod] at h1
 exact letS_zB _ (Nat.mod_lt _ (by decide)) h1
theorem t_put {W : World} {rv : Value} {cs : List Int} (hr : IntsAt W rv cs) (hcs : ∀ c ∈ cs, -9223372036854775808 <= c /\ c <= 9223372036854775807) (hl : cs.length <= 9223372036854775807) {gb : Nat} {n : Int} {now : List ByteArray} {D : Dk} {Ls : List (Nat × List Value)} {w1 : World} (h : TSt W gb n now D false Ls w1) (hn : n <= 1000) (most : Nat) (hm : most <= 40) (hnl : now.length + most <= 50) :
  Calls Tryz.prog 15 #[.pointer (some ⟨gb, 0, none⟩), rv, .int .i64 (most : Nat)] w1 fun e wP => ∃ o c, e = .returned (.tuple #[.slice o (putL cs most).length c, .bool true]) /\ TSt W gb (n + most) (putN now (putL cs most)) D false Ls wP /\ w1.grownBy wP (some gb) := by
 obtain ⟨g, m, lo, R, Q, h1, h2, h3, h4⟩ := h.kd
 have hb := h.below
 have hr1 : IntsAt w1 rv cs := by
  rcases hr with h | ⟨b, off, cap, rfl, hbl, hc⟩
  ·exact Or.inl h
  ·exact Or.inr ⟨b, off, cap, rfl, Nat.lt_of_lt_of_le hbl hb.size, fun i c h => (hb.cell (p := ⟨b, off + i, none⟩) hbl).trans (hc i c h)⟩
 have hB : ∀ b off n cap, rv = .slice (some ⟨b, off, none⟩) n cap -> n ≠ 0 -> b ≠ gb := by
  intro b off n cap e hn
  rcases hr with ⟨⟨x, c, e2⟩, -⟩ | ⟨b', off', cap', e2, hbl, -⟩
  ·rw [e2] at e; injection e with _ e _; omega
  ·rw [e2] at e
   injection e with e _ _
   injection e with e
   injection e with e
   have := h3.gB
   omega
 refine (kPutD h3 h1 (by omega) most hm hnl hr1 hB hcs hl).mono ?_
 rintro e wP ⟨o, c, rfl, hI⟩
 obtain ⟨g', hv', hc', kd'⟩ := hI.kd
 have hlen := putL_len cs most
 refine ⟨o, c, rfl, ⟨⟨g', m, lo, R, Q, hc', by omega, kd', fun p hp => ?_⟩, hb.grown hI.kept hb.size (fun j hj => by injection hj with hj; rw [← hj]; exact h3.gB)⟩, hI.kept⟩
 obtain ⟨q1, q2, q3, q4⟩ := h4 p hp
 exact ⟨(hI.kept.block _ (row_lt q1) (by intro e; injection e with e; exact q4 e)).trans q1, q2, q3, q4⟩
theorem t_heldT {W : World} {gb : Nat} {n : Int} {D : Dk} {Ls : List (Nat × List Value)} {w : World} {l : List ByteArray} (h : TSt W gb n (putN know0 l) D false Ls w) (hk : ∀ s ∈ l, ∃ k a b, k < 9 /\ s = kT k a b) : HeldT l (putN know0 l) := by
 obtain ⟨g, m, lo, R, Q, h1, h2, h3, h4⟩ := h.kd
 exact ⟨h3.doc.ht, (putN_ok l know0 know0_sorted).2.2, hk⟩
theorem putL_ks (cs : List Int) (k : Nat) : ∀ s ∈ putL cs k, ∃ k a b, k < 9 /\ s = kT k a b := by
 intro s hs
 unfold putL at hs
 obtain ⟨c, -, rfl⟩ := List.mem_map.1 hs
 exact ⟨_, _, _, Nat.mod_lt _ (by decide), rfl⟩
theorem costP_zero {xs now : List ByteArray} {s : ByteArray} {w : World} {e : Ending} {w' : World} (h : CostP xs now s w e w') (he : askE xs s = 0) : ∃ met : List Nod, e = .returned (.tuple #[.int .i64 (met.length : Nat), .int .i64 0]) /\ Below w.heap.size w w' /\ met.Nodup /\ (∀ y, y ∈ met ↔ Rch (tsOf now) (ruleN xs) (queX s) y) /\ met.length <= 32000000 := by
 unfold CostP at h
 generalize askE xs s = er at h he
 subst he
 obtain ⟨k, h1, h2, h3⟩ := h
 rw [if_pos rfl] at h3
 obtain ⟨met, rfl, h4, h5, h6⟩ := h3
 exact ⟨met, h1, h2, h4, h5, h6⟩
theorem three_get {a b c : Rq} {j : Nat} {r : Rq} (h : [a, b, c][j]? = some r) : (j = 0 /\ r = a) \/ (j = 1 /\ r = b) \/ (j = 2 /\ r = c) := by
 match j, h with
 | 0, h => simp at h; exact Or.inl ⟨rfl, h.symm⟩
 | 1, h => simp at h; exact Or.inr (Or.inl ⟨rfl, h.symm⟩)
 | 2, h => simp at h; exact Or.inr (Or.inr ⟨rfl, h.symm⟩)
 | j + 3, h => simp at h
def wk3 (o : Option Nat) : List (Option Nat) := [if o = some 0 then some 0 else none, if o = some 1 then some 0 else none, if o = some 2 then some 0 else none]
theorem wk3_get (o : Option Nat) {i : Nat} (hi : i < 3) : (wk3 o)[i]? = some (if o = some i then some 0 else none) := by
 match i, hi with
 | 0, _ => rfl
 | 1, _ => rfl
 | 2, _ => rfl
 | i + 3, hi => omega
theorem wk3_set {i : Nat} (hi : i < 3) : (wk3 none).set i (some 0) = wk3 (some i) := by
 match i, hi with
 | 0, _ => rfl
 | 1, _ => rfl
 | 2, _ => rfl
 | i + 3, hi => omega
theorem wk3_live (o : Option Nat) {f : Option Nat -> Option Nat} (h0 : f none = none) (h1 : f (some 0) = some 0) : (wk3 o).map f = wk3 o := by
 have key : ∀ (p : Prop) [Decidable p], f (if p then some 0 else none) = if p then some 0 else none := by
  intro p _
  split
  ·exact h1
  ·exact h0
 show [f _, f _, f _] = _
 rw [key, key, key]; rfl
theorem wk3_dead (o : Option Nat) {f : Option Nat -> Option Nat} (h0 : f none = none) (h1 : f (some 0) = none) : (wk3 o).map f = wk3 none := by
 have key : ∀ (p : Prop) [Decidable p], f (if p then some 0 else none) = none := by
  intro p _
  split
  ·exact h1
  ·exact h0
 show [f _, f _, f _] = _
 rw [key, key, key]; rfl
theorem wk3_other {o : Option Nat} {i : Nat} (hi : i < 3) (ho : o ≠ some i) {f : Option Nat -> Option Nat} (h0 : f none = none) (h1 : f (some 1) = none) (h2 : o ≠ none -> f (some 0) = some 0) : ((wk3 o).set i (some 1)).map f = wk3 o := by
 have key : ∀ j, f (if o = some j then some 0 else none) = if o = some j then some 0 else none := by
  intro j
  split
  ·rename_i e; exact h2 (by rw [e]; simp)
  ·exact h0
 match i, hi with
 | 0, _ =>
  show [f (some 1), f _, f _] = [if o = some 0 then some 0 else none, _, _]
  rw [key, key, h1, if_neg ho]
 | 1, _ =>
  show [f _, f (some 1), f _] = [_, if o = some 1 then some 0 else none, _]
  rw [key, key, h1, if_neg ho]
 | 2, _ =>
  show [f _, f _, f (some 1)] = [_, _, if o = some 2 then some 0 else none]
  rw [key, key, h1, if_neg ho]
 | i + 3, hi => omega
def PA (t0 : Tk) (c : Nat) (a : Rq) (o : Option Nat) : Prop :=
 (a = newR t0 /\ o = none) \/ (a.is = 2 /\ a.tk = some t0 /\ 1 <= a.st /\ a.st < c /\ ∃ i, i < 3 /\ o = some i) \/ (a.is = 3 /\ a.tk = none /\ a.st = c /\ AnsR krules t0 a.al a.us /\ o = none)
def PB (t1 : Tk) (b : Rq) : Prop := b = newR t1 \/ (b.is = 3 /\ b.tk = none /\ b.st = 1 /\ AnsR krules t1 b.al b.us)
structure PnS (t0 t1 : Tk) (c : Nat) (a b : Rq) (o : Option Nat) (D : Dk) : Prop where
 rs : D.rs = [a, b]
 wk : D.wk = wk3 o
 ha : PA t0 c a o
 hb : PB t1 b
 clock : D.clock = 0
 qu : D.qu = 6
theorem two_get {a b : Rq} {j : Nat} {r : Rq} (h : [a, b][j]? = some r) : (j = 0 /\ r = a) \/ (j = 1 /\ r = b) := by
 match j, h with
 | 0, h => simp at h; exact Or.inl ⟨rfl, h.symm⟩
 | 1, h => simp at h; exact Or.inr ⟨rfl, h.symm⟩
 | j + 2, h => simp at h
theorem dismW_live {rs : List Rq} {j : Nat} {r : Rq} (h : rs[j]? = some r) (ht : r.tk ≠ none) : dismW rs (some j) = some j := by
 show (if liveJ rs j = true then some j else none) = some j
 have : liveJ rs j = true := by
  unfold liveJ; rw [h]
  show r.tk.isSome = true
  cases e : r.tk with
  | none => exact absurd e ht
  | some t => rfl
 rw [if_pos this]
theorem dismW_dead {rs : List Rq} {j : Nat} {r : Rq} (h : rs[j]? = some r) (ht : r.tk = none) : dismW rs (some j) = none := by
 show (if liveJ rs j = true then some j else none) = none
 have : liveJ rs j = false := by
  unfold liveJ; rw [h]
  show r.tk.isSome = false
  rw [ht]; rfl
 rw [if_neg (by rw [this]; decide)]
theorem pa_step {t0 : Tk} {c : Nat} (hc : CostN krules t0.now t0.x c) (hbud : (c : Int) <= t0.bud) {r r' : Rq} {fin : Bool} (hs : StepR krules t0 r r' fin) (hi : r.is = 2) (ht : r.tk = some t0) {i : Nat} (h3 : i < 3) :
  r'.st = r.st + 1 /\ ((r'.tk = some t0 /\ r'.is = 2 /\ PA t0 c r' (some i)) \/ (r'.tk = none /\ r'.is = 3 /\ PA t0 c r' none)) := by
 have h1 := hs.cost c hc
 cases fin with
 | true =>
  obtain ⟨q1, q2, q3, q4⟩ := hs.done rfl
  exact ⟨q2, Or.inr ⟨q3, q1, Or.inr (Or.inr ⟨q1, q3, by rw [q2]; exact h1.1 rfl, q4, rfl⟩)⟩⟩
 | false =>
  have h2 := h1.2 rfl
  have := hs.on rfl (by omega)
  subst this
  exact ⟨rfl, Or.inl ⟨ht, hi, Or.inr (Or.inl ⟨hi, ht, Nat.le_add_left _ _, h2, i, h3, rfl⟩)⟩⟩
theorem ps_take {t0 t1 : Tk} {c : Nat} (hc : CostN krules t0.now t0.x c) (hbud : (c : Int) <= t0.bud) {b : Rq} {D D' : Dk} {i : Nat} (h3 : i < 3) (h : PnS t0 t1 c (newR t0) b none D) (hs : DStep krules D i D') :
  ∃ a' o', PnS t0 t1 c a' b o' D' /\ a'.st = 1 /\ ((o' = some i /\ a'.is = 2) \/ a'.is = 3) := by
 have hrs := h.rs
 have hwk := h.wk
 have hw1 : D.wk[i]? = some none := by rw [hwk, wk3_get none h3]; rfl
 have hbz : ∀ y, busyN D y = false := by
  intro y; unfold busyN; rw [hwk]; rfl
 have hmay : mayR D (newR t0) = true := by
  unfold mayR
  show (waitsR (newR t0) && !busyN D t0.x) = true
  rw [hbz]; rfl
 have hg : giveD D i = { D with rs := D.rs.set 0 { newR t0 with is := 2 }, wk := D.wk.set i (some 0) } := giveD_some (by rw [hrs]; rfl) hmay (fun k r hk => by omega)
 have hwi : (D.wk.set i (some 0))[i]? = some (some 0) := by
  rw [hwk, wk3_set h3, wk3_get _ h3, if_pos rfl]
 cases hs with
 | idle _ he h2 =>
  rw [if_pos hw1, hg] at he
  rw [he] at h2
  have h2' : (D.wk.set i (some 0))[i]? = some none := h2
  rw [hwi] at h2'
  cases h2'
 | work D1 he j hj2 r r' t fin hr ht hst =>
  rw [if_pos hw1, hg] at he
  subst he
  have hj' : (D.wk.set i (some 0))[i]? = some (some j) := hj2
  rw [hwi] at hj'
  injection hj' with hj'
  injection hj' with hj'
  subst hj'
  have hr' : (D.rs.set 0 { newR t0 with is := 2 })[0]? = some r := hr
  rw [hrs] at hr'
  injection hr' with hr'
  subst hr'
  have ht' : some t0 = some t := ht
  injection ht' with ht'
  subst ht'
  obtain ⟨q1, q2⟩ := pa_step hc hbud hst rfl rfl h3
  have key : ∀ A C : Rq, (D.rs.set 0 A).set 0 C = [C, b] := by
   intro A C; rw [hrs]; rfl
  have hR : (dismissD { ({ D with rs := D.rs.set 0 { newR t0 with is := 2 }, wk := D.wk.set i (some 0) } : Dk) with rs := (D.rs.set 0 { newR t0 with is := 2 }).set 0 r' }).rs = [r', b] := key { newR t0 with is := 2 } r'
  have hW : (dismissD { ({ D with rs := D.rs.set 0 { newR t0 with is := 2 }, wk := D.wk.set i (some 0) } : Dk) with rs := (D.rs.set 0 { newR t0 with is := 2 }).set 0 r' }).wk = (wk3 (some i)).map (dismW [r', b]) := by
   show (D.wk.set i (some 0)).map (dismW ((D.rs.set 0 { newR t0 with is := 2 }).set 0 r')) = _
   rw [key, hwk, wk3_set h3]
  rcases q2 with ⟨e1, e2, e3⟩ | ⟨e1, e2, e3⟩
  ·exact ⟨r', some i, ⟨hR, hW.trans (wk3_live _ rfl (dismW_live (r := r') rfl (by rw [e1]; simp))), e3, h.hb, h.clock, h.qu⟩, q1, Or.inl ⟨rfl, e2⟩⟩
  ·exact ⟨r', none, ⟨hR, hW.trans (wk3_dead _ rfl (dismW_dead (r := r') rfl e1)), e3, h.hb, h.clock, h.qu⟩, q1, Or.inr e2⟩
theorem ps_on {t0 t1 : Tk} {c : Nat} (hc : CostN krules t0.now t0.x c) (hbud : (c : Int) <= t0.bud) {a b : Rq} {D D' : Dk} {i : Nat} (h3 : i < 3) (h : PnS t0 t1 c a b (some i) D) (hs : DStep krules D i D') :
  ∃ a' o', PnS t0 t1 c a' b o' D' /\ a'.st = a.st + 1 /\ ((o' = some i /\ a'.is = 2) \/ a'.is = 3) := by
 have hrs := h.rs
 have hwk := h.wk
 obtain ⟨his, htk⟩ : a.is = 2 /\ a.tk = some t0 := by
  rcases h.ha with ⟨-, e⟩ | ⟨e1, e2, -⟩ | ⟨-, -, -, -, e⟩
  ·cases e
  ·exact ⟨e1, e2⟩
  ·cases e
 have hwi : D.wk[i]? = some (some 0) := by rw [hwk, wk3_get _ h3, if_pos rfl]
 have hn : ¬ D.wk[i]? = some none := by rw [hwi]; simp
 cases hs with
 | idle _ he h2 =>
  rw [if_neg hn] at he
  rw [he] at h2
  exact absurd h2 hn
 | work D1 he j hj2 r r' t fin hr ht hst =>
  rw [if_neg hn] at he
  subst he
  rw [hwi] at hj2
  injection hj2 with hj2
  injection hj2 with hj2
  subst hj2
  rw [hrs] at hr
  injection hr with hr
  subst hr
  rw [htk] at ht
  injection ht with ht
  subst ht
  obtain ⟨q1, q2⟩ := pa_step hc hbud hst his htk h3
  have hR : (dismissD { D1 with rs := D1.rs.set 0 r' }).rs = [r', b] := by
   show D1.rs.set 0 r' = _
   rw [hrs]; rfl
  have hW : (dismissD { D1 with rs := D1.rs.set 0 r' }).wk = (wk3 (some i)).map (dismW [r', b]) := by
   show D1.wk.map (dismW (D1.rs.set 0 r')) = _
   rw [hwk, hrs]; rfl
  rcases q2 with ⟨e1, e2, e3⟩ | ⟨e1, e2, e3⟩
  ·exact ⟨r', some i, ⟨hR, hW.trans (wk3_live _ rfl (dismW_live (r := r') rfl (by rw [e1]; simp))), e3, h.hb, h.clock, h.qu⟩, q1, Or.inl ⟨rfl, e2⟩⟩
  ·exact ⟨r', none, ⟨hR, hW.trans (wk3_dead _ rfl (dismW_dead (r := r') rfl e1)), e3, h.hb, h.clock, h.qu⟩, q1, Or.inr e2⟩
theorem ps_other {t0 t1 : Tk} {c : Nat} (hxz : t0.x ≠ t1.x) (hc1 : CostN krules t1.now t1.x 1) {a b : Rq} {o : Option Nat} {D D' : Dk} {i : Nat} (h3 : i < 3) (h : PnS t0 t1 c a b o D) (ha1 : a.is ≠ 1) (ho : o ≠ some i) (hs : DStep krules D i D') :
  ∃ b', PnS t0 t1 c a b' o D' /\ b'.is = 3 := by
 have hrs := h.rs
 have hwk := h.wk
 have hw1 : D.wk[i]? = some none := by rw [hwk, wk3_get o h3, if_neg ho]
 have hma : mayR D a = false := by unfold mayR waitsR; rw [decide_eq_false ha1]; rfl
 have hlive : o ≠ none -> a.tk = some t0 := by
  intro hn
  rcases h.ha with ⟨-, e⟩ | ⟨-, e2, -⟩ | ⟨-, -, -, -, e⟩
  ·exact absurd e hn
  ·exact e2
  ·exact absurd e hn
 rcases h.hb with hb | ⟨b1, b2, b3, b4⟩
 ·subst hb
  have hbz : busyN D t1.x = false := by
   unfold busyN
   rw [hwk, List.any_eq_false]
   intro p hp
   have hp' : p = none \/ (p = some 0 /\ o ≠ none) := by
    unfold wk3 at hp
    simp only [List.mem_cons, List.not_mem_nil, or_false] at hp
    rcases hp with e | e | e
    all_goals
     split at e
     ·rename_i e0; exact Or.inr ⟨e, by rw [e0]; simp⟩
     ·exact Or.inl e
   rcases hp' with e | ⟨e, e0⟩
   ·rw [e]
    intro e3
    have e4 : (none : Option Nod) = some t1.x := of_decide_eq_true e3
    cases e4
   ·rw [e]
    have e2 : nodeW D.rs (some 0) = some t0.x := by
     unfold nodeW
     show (D.rs[0]?.bind fun r => r.tk.map Tk.x) = some t0.x
     rw [hrs]
     show a.tk.map Tk.x = some t0.x
     rw [hlive e0]; rfl
    rw [e2]
    intro e3
    have := of_decide_eq_true e3
    injection this with this
    exact hxz this
  have hmay : mayR D (newR t1) = true := by
   unfold mayR
   show (waitsR (newR t1) && !busyN D t1.x) = true
   rw [hbz]; rfl
  have hg : giveD D i = { D with rs := D.rs.set 1 { newR t1 with is := 2 }, wk := D.wk.set i (some 1) } := giveD_some (by rw [hrs]; rfl) hmay (fun k r hk hr => by
   rw [hrs] at hr
   rcases two_get hr with ⟨-, e⟩ | ⟨e, -⟩
   ·rw [e]; exact hma
   ·omega)
  have hil : i < D.wk.length := (List.getElem?_eq_some_iff.1 hw1).1
  have hwi : (D.wk.set i (some 1))[i]? = some (some 1) := List.getElem?_set_self hil
  cases hs with
  | idle _ he h2 =>
   rw [if_pos hw1, hg] at he
   rw [he] at h2
   have h2' : (D.wk.set i (some 1))[i]? = some none := h2
   rw [hwi] at h2'
   cases h2'
  | work D1 he j hj2 r r' t fin hr ht hst =>
   rw [if_pos hw1, hg] at he
   subst he
   have hj' : (D.wk.set i (some 1))[i]? = some (some j) := hj2
   rw [hwi] at hj'
   injection hj' with hj'
   injection hj' with hj'
   subst hj'
   have hr' : (D.rs.set 1 { newR t1 with is := 2 })[1]? = some r := hr
   rw [hrs] at hr'
   injection hr' with hr'
   subst hr'
   have ht' : some t1 = some t := ht
   injection ht' with ht'
   subst ht'
   have hf : fin = true := by
    cases fin with
    | true => rfl
    | false =>
     have h9 : (0 : Nat) + 1 < 1 := (hst.cost 1 hc1).2 rfl
     omega
   obtain ⟨q1, q2, q3, q4⟩ := hst.done hf
   have key : ∀ A C : Rq, (D.rs.set 1 A).set 1 C = [a, C] := by
    intro A C; rw [hrs]; rfl
   have hR : (dismissD { ({ D with rs := D.rs.set 1 { newR t1 with is := 2 }, wk := D.wk.set i (some 1) } : Dk) with rs := (D.rs.set 1 { newR t1 with is := 2 }).set 1 r' }).rs = [a, r'] := key { newR t1 with is := 2 } r'
   have hW : (dismissD { ({ D with rs := D.rs.set 1 { newR t1 with is := 2 }, wk := D.wk.set i (some 1) } : Dk) with rs := (D.rs.set 1 { newR t1 with is := 2 }).set 1 r' }).wk = ((wk3 o).set i (some 1)).map (dismW [a, r']) := by
    show (D.wk.set i (some 1)).map (dismW ((D.rs.set 1 { newR t1 with is := 2 }).set 1 r')) = _
    rw [key, hwk]
   exact ⟨r', ⟨hR, hW.trans (wk3_other h3 ho rfl (dismW_dead (r := r') rfl q3) fun hn => dismW_live (r := a) rfl (by rw [hlive hn]; simp)), h.ha, Or.inr ⟨q1, q3, q2, q4⟩, h.clock, h.qu⟩, q1⟩
 ·have hmb : mayR D b = false := by unfold mayR waitsR; rw [b1]; rfl
  have hg : giveD D i = D := giveD_none fun k r hr => by
   rw [hrs] at hr
   rcases two_get hr with ⟨-, e⟩ | ⟨-, e⟩
   ·rw [e]; exact hma
   ·rw [e]; exact hmb
  cases hs with
  | idle _ he h2 =>
   rw [if_pos hw1, hg] at he
   subst he
   exact ⟨b, h, b1⟩
  | work D1 he j hj2 r r' t fin hr ht hst =>
   rw [if_pos hw1, hg] at he
   subst he
   rw [hw1] at hj2
   injection hj2 with hj2
   cases hj2
theorem ps_step {t0 t1 : Tk} {c : Nat} (hc : CostN krules t0.now t0.x c) (hbud : (c : Int) <= t0.bud) (hxz : t0.x ≠ t1.x) (hc1 : CostN krules t1.now t1.x 1) {a b : Rq} {o : Option Nat} {D D' : Dk} {i : Nat} (h3 : i < 3) (h : PnS t0 t1 c a b o D) (hs : DStep krules D i D') :
  ∃ a' b' o', PnS t0 t1 c a' b' o' D' /\ ((a.is = 1 /\ b' = b /\ a'.st = 1 /\ ((o' = some i /\ a'.is = 2) \/ a'.is = 3)) \/ (o = some i /\ b' = b /\ a'.st = a.st + 1 /\ ((o' = some i /\ a'.is = 2) \/ a'.is = 3)) \/ (a.is ≠ 1 /\ o ≠ some i /\ a' = a /\ o' = o /\ b'.is = 3)) := by
 by_cases ha : a.is = 1
 ·have hn : a = newR t0 /\ o = none := by
   rcases h.ha with e | ⟨e, -⟩ | ⟨e, -⟩
   ·exact e
   ·rw [ha] at e; cases e
   ·rw [ha] at e; cases e
  obtain ⟨rfl, rfl⟩ := hn
  obtain ⟨a', o', q1, q2, q3⟩ := ps_take hc hbud h3 h hs
  exact ⟨a', b, o', q1, Or.inl ⟨rfl, rfl, q2, q3⟩⟩
 ·by_cases ho : o = some i
  ·subst ho
   obtain ⟨a', o', q1, q2, q3⟩ := ps_on hc hbud h3 h hs
   exact ⟨a', b, o', q1, Or.inr (Or.inl ⟨rfl, rfl, q2, q3⟩)⟩
  ·obtain ⟨b', q1, q2⟩ := ps_other hxz hc1 h3 h ha ho hs
   exact ⟨a, b', o, q1, Or.inr (Or.inr ⟨ha, ho, rfl, rfl, q2⟩)⟩
theorem PnS.told {t0 t1 : Tk} {c : Nat} (hc0 : 1 <= c) {a b : Rq} {o : Option Nat} {D : Dk} (h : PnS t0 t1 c a b o D) : a.st <= c /\ (a.is = 3 ↔ a.st = c) := by
 rcases h.ha with ⟨e, -⟩ | ⟨e1, -, -, e2, -⟩ | ⟨e1, -, e2, -⟩
 ·rw [e]
  refine ⟨Nat.zero_le _, (fun e => by cases e), fun e => ?_⟩
  have : 0 = c := e
  omega
 ·exact ⟨by omega, (fun e => by rw [e1] at e; cases e), fun e => by omega⟩
 ·exact ⟨by omega, fun _ => e2, fun _ => e1⟩
structure PnR (t0 t1 : Tk) (c : Nat) (n : Nat) (D : Dk) : Prop where
 ex : ∃ a b o, PnS t0 t1 c a b o D /\ (n = 0 \/ a.is ≠ 1) /\ (∀ v, o = some v -> n / 3 + (if v < n % 3 then 1 else 0) <= a.st) /\ (n = 0 \/ (n = 1 /\ o ≠ some 1) \/ b.is = 3)
theorem PnS.wait {t0 t1 : Tk} {c : Nat} {a b : Rq} {o : Option Nat} {D : Dk} (h : PnS t0 t1 c a b o D) (h3 : a.is = 3) : o = none := by
 rcases h.ha with ⟨e, -⟩ | ⟨e1, -⟩ | ⟨-, -, -, -, e⟩
 ·rw [e] at h3; cases h3
 ·rw [e1] at h3; cases h3
 ·exact e
theorem PnR.step {t0 t1 : Tk} {c : Nat} (hc : CostN krules t0.now t0.x c) (hbud : (c : Int) <= t0.bud) (hxz : t0.x ≠ t1.x) (hc1 : CostN krules t1.now t1.x 1) {n : Nat} {D D' : Dk} (h : PnR t0 t1 c n D) (hs : DStep krules D (n % 3) D') : PnR t0 t1 c (n + 1) D' := by
 obtain ⟨a, b, o, hp, h1, h2, h3⟩ := h.ex
 have hm : n % 3 < 3 := Nat.mod_lt _ (by decide)
 obtain ⟨a', b', o', hp', hcs⟩ := ps_step hc hbud hxz hc1 hm hp hs
 have ho : ∀ v, o = some v -> v < 3 := by
  intro v e
  rcases hp.ha with ⟨-, e1⟩ | ⟨-, -, -, -, i, e1, e2⟩ | ⟨-, -, -, -, e1⟩
  ·rw [e1] at e; cases e
  ·rw [e2] at e; injection e with e; omega
  ·rw [e1] at e; cases e
 refine ⟨a', b', o', hp', Or.inr ?_, fun v hv => ?_, ?_⟩
 ·rcases hcs with ⟨-, -, -, ⟨-, e⟩ | e⟩ | ⟨-, -, -, ⟨-, e⟩ | e⟩ | ⟨e1, -, e2, -⟩
  ·rw [e]; decide
  ·rw [e]; decide
  ·rw [e]; decide
  ·rw [e]; decide
  ·rw [e2]; exact e1
 ·rcases hcs with ⟨e1, -, e3, e4⟩ | ⟨e1, -, e3, e4⟩ | ⟨e1, e2, e3, e4, -⟩
  ·have hn : n = 0 := by
    rcases h1 with e | e
    ·exact e
    ·exact absurd e1 e
   subst hn
   rw [e3]
   split <;> omega
  ·rcases e4 with ⟨e4, -⟩ | e4
   ·rw [e4] at hv
    injection hv with hv
    have := h2 (n % 3) e1
    rw [if_neg (by omega)] at this
    rw [e3]
    split <;> omega
   ·rw [hp'.wait e4] at hv; cases hv
  ·rw [e4] at hv
   have h5 := h2 v hv
   have h6 := ho v hv
   have h7 : v ≠ n % 3 := fun e => e2 (by rw [hv, e])
   rw [e3]
   split at h5 <;> split <;> omega
 ·rcases hcs with ⟨e1, -, e3, e4⟩ | ⟨e1, e2, e3, e4⟩ | ⟨e1, e2, e3, e4, e5⟩
  ·have hn : n = 0 := by
    rcases h1 with e | e
    ·exact e
    ·exact absurd e1 e
   subst hn
   refine Or.inr (Or.inl ⟨rfl, ?_⟩)
   rcases e4 with ⟨e4, -⟩ | e4
   ·rw [e4]; decide
   ·rw [hp'.wait e4]; simp
  ·by_cases hn : n = 0
   ·subst hn
    refine Or.inr (Or.inl ⟨rfl, ?_⟩)
    rcases e4 with ⟨e4, -⟩ | e4
    ·rw [e4]; decide
    ·rw [hp'.wait e4]; simp
   ·rcases h3 with e | ⟨rfl, e⟩ | e
    ·exact absurd e hn
    ·exact absurd e1 e
    ·rw [e2]; exact Or.inr (Or.inr e)
  ·exact Or.inr (Or.inr e5)
theorem PnR.done {t0 t1 : Tk} {c : Nat} {D : Dk} (h : PnR t0 t1 c (3 * c + 9) D) : ∃ a b, PnS t0 t1 c a b none D /\ a.is = 3 /\ b.is = 3 := by
 obtain ⟨a, b, o, hp, h1, h2, h3⟩ := h.ex
 have hb : b.is = 3 := by
  rcases h3 with e | ⟨e, -⟩ | e
  ·omega
  ·omega
  ·exact e
 have ha : a.is = 3 := by
  rcases hp.ha with ⟨e, -⟩ | ⟨-, -, -, e, i, -, e2⟩ | ⟨e, -⟩
  ·rcases h1 with e1 | e1
   ·omega
   ·rw [e] at e1; exact absurd rfl e1
  ·have := h2 i e2
   omega
  ·exact e
 have := hp.wait ha
 subst this
 exact ⟨a, b, hp, ha, hb⟩
structure PnT (t2 : Tk) (n k : Nat) (D : Dk) : Prop where
 ex : ∃ a b r : Rq, D.rs = [a, b, r] /\ a.is = 3 /\ b.is = 3 /\ ((k = 0 /\ r = newR t2 /\ D.wk = [none, none, none]) \/ (0 < k /\ k < n /\ (k : Int) < t2.bud /\ r = { newR t2 with is := 2, st := k } /\ D.wk = [some 2, none, none]) \/ (r.tk = none /\ D.wk = [none, none, none] /\ r.is ≠ 1 /\ ((t2.bud < (n : Int) /\ r.is = 4 /\ (r.st : Int) = t2.bud /\ r.us = []) \/ ((n : Int) <= t2.bud /\ r.is = 3 /\ r.st = n))))
theorem PnT.work {t2 : Tk} {n k : Nat} (hc : CostN krules t2.now t2.x n) {a b r r' : Rq} (ha : a.is = 3) (hb : b.is = 3) {fin : Bool} (hs : StepR krules t2 r r' fin) (hr : r = { newR t2 with is := 2, st := k }) (hk : (k : Int) < t2.bud) {D' : Dk} (hrs : D'.rs = [a, b, r']) (hwk : D'.wk = [dismW [a, b, r'] (some 2), none, none]) : PnT t2 n (k + 1) D' := by
 subst hr
 have h1 := hs.cost n hc
 cases fin with
 | true =>
  obtain ⟨q1, q2, q3, q4⟩ := hs.done rfl
  have e : k + 1 = n := h1.1 rfl
  refine ⟨a, b, r', hrs, ha, hb, Or.inr (Or.inr ⟨q3, ?_, by rw [q1]; decide, Or.inr ⟨by omega, q1, q2.trans e⟩⟩)⟩
  rw [hwk, dismW_dead (r := r') rfl q3]
 | false =>
  have e : k + 1 < n := h1.2 rfl
  by_cases hb2 : (k : Int) + 1 = t2.bud
  ·have := hs.bud rfl hb2
   subst this
   refine ⟨a, b, _, hrs, ha, hb, Or.inr (Or.inr ⟨rfl, ?_, by show (4 : Int) ≠ 1; decide, Or.inl ⟨by omega, rfl, ?_, rfl⟩⟩)⟩
   ·rw [hwk, dismW_dead (r := { newR t2 with is := 4, st := k + 1, tk := none }) rfl rfl]
   ·show ((k + 1 : Nat) : Int) = t2.bud
    omega
  ·have := hs.on rfl hb2
   subst this
   refine ⟨a, b, _, hrs, ha, hb, Or.inr (Or.inl ⟨by omega, e, by omega, rfl, ?_⟩)⟩
   rw [hwk, dismW_live (r := { newR t2 with is := 2, st := k + 1 }) rfl (by show some t2 ≠ none; simp)]
theorem PnT.step {t2 : Tk} {n k : Nat} (hc : CostN krules t2.now t2.x n) (hb1 : 1 <= t2.bud) {D D' : Dk} (h : PnT t2 n k D) (hs : DStep krules D 0 D') : PnT t2 n (k + 1) D' := by
 obtain ⟨a, b, r, hrs, ha, hb, hcs⟩ := h.ex
 have hma : mayR D a = false := by unfold mayR waitsR; rw [ha]; rfl
 have hmb : mayR D b = false := by unfold mayR waitsR; rw [hb]; rfl
 rcases hcs with ⟨hk, hr, hwk⟩ | ⟨hk, hkn, hkb, hr, hwk⟩ | ⟨ht, hwk, hr1, hor⟩
 ·subst hk hr
  have hw1 : D.wk[0]? = some none := by rw [hwk]; rfl
  have hmay : mayR D (newR t2) = true := by
   unfold mayR
   show (waitsR (newR t2) && !busyN D t2.x) = true
   have : busyN D t2.x = false := by unfold busyN; rw [hwk]; rfl
   rw [this]; rfl
  have hg : giveD D 0 = { D with rs := D.rs.set 2 { newR t2 with is := 2 }, wk := D.wk.set 0 (some 2) } := giveD_some (by rw [hrs]; rfl) hmay (fun k r hk hr => by
   rw [hrs] at hr
   rcases three_get hr with ⟨-, e⟩ | ⟨-, e⟩ | ⟨e, -⟩
   ·rw [e]; exact hma
   ·rw [e]; exact hmb
   ·omega)
  cases hs with
  | idle _ he h2 =>
   rw [if_pos hw1, hg] at he
   rw [he] at h2
   have h2' : (D.wk.set 0 (some 2))[0]? = some none := h2
   rw [hwk] at h2'
   cases h2'
  | work D1 he j hj2 r r' t fin hr ht hst =>
   rw [if_pos hw1, hg] at he
   subst he
   have hj' : (D.wk.set 0 (some 2))[0]? = some (some j) := hj2
   rw [hwk] at hj'
   have hj : j = 2 := by
    injection hj' with hj'
    injection hj' with hj'
    exact hj'.symm
   subst hj
   have hr' : (D.rs.set 2 { newR t2 with is := 2 })[2]? = some r := hr
   rw [hrs] at hr'
   injection hr' with hr'
   subst hr'
   have ht' : some t2 = some t := ht
   injection ht' with ht'
   subst ht'
   have key : ∀ A C : Rq, (D.rs.set 2 A).set 2 C = [a, b, C] := by
    intro A C; rw [hrs]; rfl
   refine PnT.work hc ha hb hst rfl (show ((0 : Nat) : Int) < t2.bud by omega) (key { newR t2 with is := 2 } r') ?_
   show (D.wk.set 0 (some 2)).map (dismW ((D.rs.set 2 { newR t2 with is := 2 }).set 2 r')) = _
   rw [key, hwk]; rfl
 ·have hw1 : D.wk[0]? = some (some 2) := by rw [hwk]; rfl
  have hn : ¬ D.wk[0]? = some none := by rw [hw1]; simp
  cases hs with
  | idle _ he h2 =>
   rw [if_neg hn] at he
   rw [he] at h2
   exact absurd h2 hn
  | work D1 he j hj2 r0 r' t fin hr0 ht hst =>
   rw [if_neg hn] at he
   subst he
   rw [hw1] at hj2
   injection hj2 with hj2
   injection hj2 with hj2
   subst hj2
   rw [hrs] at hr0
   have hr0 : some r = some r0 := hr0
   injection hr0 with hr0
   subst hr0
   rw [hr] at ht
   have ht : some t2 = some t := ht
   injection ht with ht
   subst ht
   refine PnT.work hc ha hb hst hr hkb (by show D1.rs.set 2 r' = _; rw [hrs]; rfl) ?_
   show D1.wk.map (dismW (D1.rs.set 2 r')) = _
   rw [hwk, hrs]; rfl
 ·have hw1 : D.wk[0]? = some none := by rw [hwk]; rfl
  have hmr : mayR D r = false := by unfold mayR waitsR; rw [decide_eq_false hr1]; rfl
  have hg : giveD D 0 = D := giveD_none fun k q hq => by
   rw [hrs] at hq
   rcases three_get hq with ⟨-, e⟩ | ⟨-, e⟩ | ⟨-, e⟩
   ·rw [e]; exact hma
   ·rw [e]; exact hmb
   ·rw [e]; exact hmr
  cases hs with
  | idle _ he h2 =>
   rw [if_pos hw1, hg] at he
   subst he
   exact ⟨a, b, r, hrs, ha, hb, Or.inr (Or.inr ⟨ht, hwk, hr1, hor⟩)⟩
  | work D1 he j hj2 r0 r' t fin hr0 ht hst =>
   rw [if_pos hw1, hg] at he
   subst he
   rw [hw1] at hj2
   injection hj2 with hj2
   cases hj2
theorem PnT.done {t2 : Tk} {n : Nat} {D : Dk} (h : PnT t2 n (n + 2) D) : (t2.bud < (n : Int) /\ (pollR D 3).is = 4 /\ ((pollR D 3).st : Int) = t2.bud /\ (pollR D 3).us = []) \/ ((n : Int) <= t2.bud /\ (pollR D 3).is = 3 /\ (pollR D 3).st = n) := by
 obtain ⟨a, b, r, hrs, ha, hb, hcs⟩ := h.ex
 have e : pollR D 3 = r := pollR_at (D := D) (n := 2) (by rw [hrs]; rfl)
 rw [e]
 rcases hcs with ⟨hk, -⟩ | ⟨-, hk, -⟩ | ⟨-, -, -, hor⟩
 ·omega
 ·omega
 ·exact hor
theorem PnS.third {t0 t1 : Tk} {c : Nat} {a b : Rq} {D : Dk} (h : PnS t0 t1 c a b none D) (ha : a.is = 3) (hb : b.is = 3) (t2 : Tk) (n : Nat) (ht : 0 < t2.til) : fullD D = false /\ D.rs.length = 2 /\ PnT t2 n 0 (takeD D t2) := by
 refine ⟨?_, by rw [h.rs]; rfl, ⟨a, b, newR t2, ?_, ha, hb, Or.inl ⟨rfl, rfl, h.wk⟩⟩⟩
 ·unfold fullD
  have := waitN_le D.rs
  have hl : D.rs.length = 2 := by rw [h.rs]; rfl
  rw [h.qu, Bool.or_eq_false_iff]
  exact ⟨decide_eq_false (by omega), decide_eq_false (by omega)⟩
 ·show D.rs ++ [lateR D.clock (newR t2)] = _
  rw [h.rs, h.clock, lateR_new (by omega)]; rfl
theorem PnS.first {t0 t1 : Tk} (c : Nat) (h0 : 0 < t0.til) (h1 : 0 < t1.til) : fullD (newD 3 6) = false /\ fullD (takeD (newD 3 6) t0) = false /\ PnS t0 t1 c (newR t0) (newR t1) none (takeD (takeD (newD 3 6) t0) t1) := by
 have key : ∀ D : Dk, D.qu = 6 -> D.rs.length <= 2 -> fullD D = false := by
  intro D h1 h2
  unfold fullD
  have := waitN_le D.rs
  rw [h1, Bool.or_eq_false_iff]
  exact ⟨decide_eq_false (by omega), decide_eq_false (by omega)⟩
 refine ⟨key _ rfl (by decide), key _ rfl (by show ([] ++ [_]).length <= 2; simp), ⟨?_, rfl, Or.inl ⟨rfl, rfl⟩, Or.inl rfl, rfl, rfl⟩⟩
 show [] ++ [lateR 0 (newR t0)] ++ [lateR 0 (newR t1)] = _
 rw [lateR_new (by omega), lateR_new (by omega)]; rfl
theorem leafW_of {ts : List (Nod × Nod)} {x y : Nod} {is : Int} {a b : ByteArray} (h : y ∈ leafW ts x is a b) : (y.th = x.th \/ ∃ t ∈ ts, y.th = t.2.th) /\ (y.r = b \/ ∃ t ∈ ts, y.r = t.2.r) := by
 unfold leafW at h
 split at h
 ·exact ⟨Or.inr ⟨_, mem_subsOf.1 h, rfl⟩, Or.inr ⟨_, mem_subsOf.1 h, rfl⟩⟩
 ·split at h
  ·simp at h; rw [h]; exact ⟨Or.inl rfl, Or.inl rfl⟩
  ·obtain ⟨z, hz, rfl⟩ := List.mem_map.1 h
   exact ⟨Or.inr ⟨_, mem_subsOf.1 (List.mem_filter.1 hz).1, rfl⟩, Or.inl rfl⟩
mutual
theorem namedW_of {ts : List (Nod × Nod)} {x y : Nod} : (t : WayT) -> y ∈ namedW ts x t -> (y.th = x.th \/ ∃ t ∈ ts, y.th = t.2.th) /\ (y.r ∈ relsW t \/ ∃ t ∈ ts, y.r = t.2.r)
 | .mk is a b parts, h => by
  rw [namedW] at h
  rw [relsW]
  by_cases hl : isLeaf is = true
  ·rw [if_pos hl] at h ⊢
   obtain ⟨h1, h2⟩ := leafW_of h
   refine ⟨h1, ?_⟩
   rcases h2 with e | e
   ·left; rw [e]; simp
   ·exact Or.inr e
  ·rw [if_neg hl] at h ⊢; exact namedL_of parts h
theorem namedL_of {ts : List (Nod × Nod)} {x y : Nod} : (l : List WayT) -> y ∈ namedL ts x l -> (y.th = x.th \/ ∃ t ∈ ts, y.th = t.2.th) /\ (y.r ∈ relsL l \/ ∃ t ∈ ts, y.r = t.2.r)
 | [], h => by rw [namedL] at h; cases h
 | t :: l, h => by
  rw [namedL] at h
  rw [relsL]
  rcases List.mem_append.1 h with h | h
  ·obtain ⟨h1, h2⟩ := namedW_of t h
   exact ⟨h1, h2.imp (List.mem_append_left _) id⟩
  ·obtain ⟨h1, h2⟩ := namedL_of l h
   exact ⟨h1, h2.imp (List.mem_append_right _) id⟩
end
theorem grid_len {α β : Type} (f : Nod -> β -> α) (U : List β) : ∀ l : List Nod, (l.flatMap fun t => U.map (f t)).length = l.length * U.length := by
 intro l
 induction l with
 | nil => simp
 | cons a l ih => rw [List.flatMap_cons, List.length_append, ih, List.length_map, List.length_cons, Nat.add_mul]; omega
theorem cost_small {xs now : List ByteArray} (hx : ∀ y ∈ xs, y.size <= 200) (hl : now.length <= 50) (hr : (xs.flatMap fun y => relsW (ruleW y).1).length <= 100) {x : Nod} {c : Nat} (h : CostN xs now x c) : 1 <= c /\ c <= 7701 := by
 obtain ⟨met, hn, hm, rfl⟩ := h
 constructor
 ·exact List.length_pos_of_mem ((hm x).2 Rch.here)
 ·have hts : (tsOf now).length <= 50 := by unfold tsOf; rw [List.length_map]; exact hl
  generalize hT : x.th :: (tsOf now).map (fun t => t.2.th) = T
  generalize hU : x.r :: ((tsOf now).map (fun t => t.2.r) ++ xs.flatMap fun y => relsW (ruleW y).1) = U
  have hTl : T.length <= 51 := by rw [← hT]; simp; omega
  have hUl : U.length <= 151 := by
   rw [← hU, List.length_cons, List.length_append, List.length_map]; omega
  have hS : ∀ y, Rch (tsOf now) (ruleN xs) x y -> y.th ∈ T /\ y.r ∈ U := by
   intro y hy
   refine Rch.in (S := fun y => y.th ∈ T /\ y.r ∈ U) (fun p hp q hq => ?_) ⟨by rw [← hT]; simp, by rw [← hU]; simp⟩ hy
   unfold namesN at hq
   obtain ⟨h1, h2⟩ := namedW_of _ (List.mem_filter.1 hq).1
   constructor
   ·rcases h1 with e | ⟨t, ht, e⟩
    ·rw [e]; exact hp.1
    ·rw [e, ← hT]; exact List.mem_cons_of_mem _ (List.mem_map.2 ⟨t, ht, rfl⟩)
   ·rw [← hU]
    rcases h2 with e | ⟨t, ht, e⟩
    ·exact List.mem_cons_of_mem _ (List.mem_append_right _ ((rule_cov hx p).1 _ e))
    ·rw [e]; exact List.mem_cons_of_mem _ (List.mem_append_left _ (List.mem_map.2 ⟨t, ht, rfl⟩))
  have h1 : met.length <= (T.flatMap fun t => U.map (Nod.to t)).length := by
   refine nodup_sub_len _ _ hn fun y hy => ?_
   have k := hS y ((hm y).1 hy)
   exact List.mem_flatMap.2 ⟨y.th, k.1, List.mem_map.2 ⟨y.r, k.2, rfl⟩⟩
  rw [grid_len] at h1
  exact Nat.le_trans h1 (Nat.mul_le_mul hTl hUl)
theorem krules_rels : (krules.flatMap fun y => relsW (ruleW y).1).length <= 100 := by decide +kernel
theorem krules_sz : ∀ y ∈ krules, y.size <= 200 := by decide +kernel
def qzuB : ByteArray := ⟨#[103, 114, 111, 117, 112, 58, 122, 35, 109, 101, 109, 98, 101, 114, 64, 117, 115, 101, 114, 58, 122]⟩
theorem qzu_ok : askE krules qzuB = 0 /\ queX qzuB = zX /\ queY qzuB = ⟨userB, zB, noneB⟩ /\ queC qzuB = true := by decide +kernel
theorem z_in {l now : List ByteArray} (h : HeldT l now) : InN (tsOf now) krules ⟨userB, zB, noneB⟩ zX := by
 have h0 : ((zX, ⟨userB, zB, noneB⟩) : Nod × Nod) ∈ tsOf now := by
  have h1 : ((zX, ⟨userB, zB, noneB⟩) : Nod × Nod) ∈ tsOf know0 := by rw [know0_ts]; exact List.mem_cons_of_mem _ (List.mem_cons_self ..)
  obtain ⟨s, hs, e⟩ := List.mem_map.1 h1
  exact List.mem_map.2 ⟨s, (h.mem s).2 (Or.inl hs), e⟩
 refine ⟨by decide +kernel, ⟨_, h0, rfl⟩, ?_⟩
 have e : ruleN krules zX = thisW := kr_member zB
 rw [std_this e]
 exact ⟨_, mem_subsOf.2 h0, by unfold inU; rw [if_pos (by decide +kernel)]⟩
theorem ans_z {l now : List ByteArray} (h : HeldT l now) {bud til : Int} {al : Bool} {us : List ByteArray} (ha : AnsR krules (tkOf now qzuB bud til) al us) : al = true := by
 obtain ⟨q1, q2, q3, q4⟩ := qzu_ok
 refine (ha.yes q4).2.2 ⟨⟨userB, zB, noneB⟩, ?_, ?_⟩
 ·show InN (tsOf now) krules _ (queX qzuB)
  rw [q2]; exact z_in h
 ·show thT _ = thT (queY qzuB)
  rw [q3]
theorem ans_who {now : List ByteArray} {k : Nat} (hk : k < 6) (a : Nat) {bud til : Int} {al : Bool} {us : List ByteArray} (ha : AnsR krules (tkOf now (kNd k a) bud til) al us) {zs : List ByteArray} (hs : Sorted zs) (hz : ∀ z, z ∈ zs ↔ ∃ u, InN (tsOf now) krules u (kNN k a) /\ thT u = z) : us = zs := by
 obtain ⟨q1, q2, q3, q4, q5⟩ := kNd_que k a hk
 obtain ⟨-, h1, h2⟩ := ha.who q2
 refine sorted_ext _ _ h1 hs fun s => ?_
 rw [h2, hz]
 show (∃ u, InN (tsOf now) krules u (queX (kNd k a)) /\ thT u = s) ↔ _
 rw [q3]
open Go.RowKit Go.Shelf Go.MuLone
def GPolB (w : World) (r : Rq) (o : Option Addr) (c : Nat) (w' : World) : Prop :=
 w'.ownsRow w.heap.size 9 1 (.slice o r.us.length c) r.us.length (strV r.us) /\ Below w.heap.size w w'
theorem gPoll_below {w : World} {B gb : Nat} {g : Pg} {m : List (Value × Value)} {lo : Nat} {xs now : List ByteArray} {R Q : Nat -> Prop} {D : Dk} (h : KD w B gb g m lo xs now R Q D) (id : Int) :
  Calls Tryz.prog 29 #[.pointer (some ⟨gb, 0, none⟩), .int .i64 id] w fun e w' => ∃ o c, e = .returned (.agg #[.int .i64 (pollR D id).is, .int .i64 (pollR D id).st, .bool (pollR D id).al, .slice o (pollR D id).us.length c]) /\ GPolB w (pollR D id) o c w' := by
 have hbZ : Below w.heap.size w (w.alloc (.cells zeroS.toArray 51)) := (Below.refl _ _).alloc (Nat.le_refl _) _
 have hzZ : (w.alloc (.cells zeroS.toArray 51)).heap.size = w.heap.size + 1 := by show (w.heap.push _).size = _; simp
 have hrZ := alloc_new w zeroS 51
 obtain ⟨w0, hw0⟩ : ∃ w0, w.alloc (.cells zeroS.toArray 51) = w0 := ⟨_, rfl⟩
 rw [hw0] at hbZ hzZ hrZ
 have hk0 := h.later hbZ
 obtain ⟨db, tv, wb, ls, hdb, hd1, hpg1, -, -, hf1, hz1⟩ := hk0.lockd
 have hgl := row_lt h.pg
 have hr1 : (w0.setCell ⟨gb, 0, none⟩ (.int .i32 1)).heap[w.heap.size]? = some (.cells zeroS.toArray 51 (0, 0)) := (hf1.block _ (row_lt hrZ) (by omega)).trans hrZ
 generalize hr : pollR D id = r
 have HST : Hid (Calls Tryz.prog 64 #[.pointer (some ⟨db, 0, none⟩), .int .i64 id] (w0.setCell ⟨gb, 0, none⟩ (.int .i32 1)) fun e w2 => ∃ o c, e = .returned (.agg #[.int .i64 r.is, .int .i64 r.st, .bool r.al, .slice o r.us.length c]) /\ Hid (w2.heap[w.heap.size]? = some (.cells zeroS.toArray 51 (0, 0))) /\ Hid (PgAt w2 gb { g with lk := 1 }) /\ Hid (∀ w3, Frm (fun k => k = w.heap.size) w2 w3 -> GPolB w r o c (w3.setCell ⟨gb, 0, none⟩ (.int .i32 0)))) := by
  refine (dkState_any hd1 id).mono ?_
  intro e w2 hp
  rw [hr] at hp
  obtain ⟨o, c, rfl, ho, hb⟩ := hp
  have hpg2 := pg_below hpg1 hb
  have hr2 := (hb.block _ (row_lt hr1)).trans hr1
  refine ⟨o, c, rfl, hr2, hpg2, ?_⟩
  intro w3 hf3
  have hpg3 : PgAt w3 gb { g with lk := 1 } := (hf3.block gb (row_lt hpg2) (by omega)).trans hpg2
  have hff : Frm (fun k => k = gb) w w3 := by
   refine (((Frm.of_below hbZ).trans hf1 fun k _ e => e).trans (Frm.of_below (X := fun _ => False) hb) fun _ _ e => e.elim).trans hf3 fun k hk e => ?_
   omega
  have hz3 : (w3.setCell ⟨gb, 0, none⟩ (.int .i32 0)).heap.size = w3.heap.size := by simp [World.setCell]
  have hpg4 : PgAt (w3.setCell ⟨gb, 0, none⟩ (.int .i32 0)) gb g := by
   have := pg_lock hpg3 0
   obtain ⟨lk, mb, tv', ver, dk, cl⟩ := g
   have hlk : lk = 0 := h.lk
   subst hlk
   exact this
  have hop : Below w.heap.size w (w3.setCell ⟨gb, 0, none⟩ (.int .i32 0)) := by
   refine ⟨hff.os, hff.tape, hff.output, by rw [hz3]; exact hff.size, fun k hk => ?_⟩
   by_cases e : k = gb
   ·rw [e]; exact hpg4.trans h.pg.symm
   ·exact (Below.heap_setCell _ _ _ _ e).trans (hff.block k hk e)
  refine ⟨?_, hop⟩
  have ho2 : w2.ownsRow (w.heap.size + 1) 9 1 (.slice o r.us.length c) r.us.length (strV r.us) := by rw [← hzZ, ← hz1]; exact ho
  have ho3 : w3.ownsRow (w.heap.size + 1) 9 1 (.slice o r.us.length c) r.us.length (strV r.us) := owns_to ho2 fun k hk => hf3.block k (owns_lt ho2 k hk).1 (by have := (owns_lt ho2 k hk).2.1; omega)
  exact owns_base (ownsSet ho3 (by omega) _ _) (by omega)
 have h0 := row_cell hk0.pg (j := 0) rfl
 have f0 := row_frozen hk0.pg 0
 have c5 := row_cell hpg1 (j := 5) rfl
 have hlk := h.lk
 have hw0' : w.alloc (.cells #[.int .i64 0, .int .i64 0, .bool false, .slice none 0 0] 51) = w0 := hw0
 clear h hd1 hpg1 hf1 hz1 hk0 hbZ hrZ hr1 hr hw0
 obtain ⟨lk, mb, tvg, ver, dk, cl⟩ := g
 dsimp only at hlk hdb
 subst hlk
 subst hdb
 generalize GPolB w r = PP at *
 generalize r.is = is at *
 generalize r.st = st at *
 generalize r.al = al at *
 generalize r.us.length = n at *
 go_enter_defers Tryz.func29, Tryz.ntmps29
 go_wp2_with (first | (go_at_call 51; refine (lock_free Tryz.muLib ⟨gb, 0, none⟩ _ h0 f0).mono ?_; rintro e w1 ⟨rfl, hw1⟩; subst w1) | (go_at_call 64; refine (Calls.mono HST.out) ?_; rintro e w3 ⟨o, c, rfl, HR, HG, HP⟩; have q0 := row_cell HR.out (j := 0) rfl; have q1 := row_cell HR.out (j := 1) rfl; have q2 := row_cell HR.out (j := 2) rfl; have q3 := row_cell HR.out (j := 3) rfl; have z4 := row_frozen HR.out 0; have z5 := row_frozen HR.out 1; have z6 := row_frozen HR.out 2; have z7 := row_frozen HR.out 3))
 have hf4 : Frm (fun k => k = w.heap.size) w3 ((((w3.setCell ⟨w.heap.size, 0, none⟩ (.int .i64 is)).setCell ⟨w.heap.size, 1, none⟩ (.int .i64 st)).setCell ⟨w.heap.size, 2, none⟩ (.bool al)).setCell ⟨w.heap.size, 3, none⟩ (.slice o n c)) := (((frm_set _ _ _ _).trans (frm_set _ _ _ _) fun _ _ e => e).trans (frm_set _ _ _ _) fun _ _ e => e).trans (frm_set _ _ _ _) fun _ _ e => e
 have hG4 : PgAt ((((w3.setCell ⟨w.heap.size, 0, none⟩ (.int .i64 is)).setCell ⟨w.heap.size, 1, none⟩ (.int .i64 st)).setCell ⟨w.heap.size, 2, none⟩ (.bool al)).setCell ⟨w.heap.size, 3, none⟩ (.slice o n c)) gb ⟨1, mb, tvg, ver, .pointer (some ⟨db, 0, none⟩), cl⟩ := (hf4.block gb (row_lt HG.out) (by omega)).trans HG.out
 have hne2 : ¬ w.heap.size = gb := by omega
 have HF : Hid _ := HP.out _ hf4
 refine leaves_cons (f := 52) (args := #[.pointer (some ⟨gb, 0, none⟩)]) (by simp) (by simp [go_sem]) ?_
 refine (unlock_deferred Tryz.muLib ⟨gb, 0, none⟩ .returning _ (row_cell hG4 (j := 0) rfl) (row_frozen hG4 0)).mono ?_
 rintro e u' w6 ⟨rfl, rfl, rfl⟩
 exact ⟨.agg #[.int .i64 is, .int .i64 st, .bool al, .slice o n c], by simp [results, Tryz.results29, go_sem, q0, q1, q2, q3], o, c, rfl, HF.out⟩
open Go.RowKit Go.Shelf
structure PSt (W : World) (gb : Nat) (n : Int) (now : List ByteArray) (D : Dk) (v : Value) (zs : List ByteArray) (w : World) : Prop where
 kd : ∃ g m lo R Q, g.cl = false /\ g.ver <= n /\ KD w W.heap.size gb g m lo krules now R Q D /\ StrT w v zs /\ ∀ k, v.ownBlock = some k -> ¬ Q k /\ ¬ R k /\ k ≠ gb
 below : Below W.heap.size W w
theorem PSt.later {W : World} {gb : Nat} {n : Int} {now : List ByteArray} {D : Dk} {v : Value} {zs : List ByteArray} {w w' : World} (h : PSt W gb n now D v zs w) (hb : Below w.heap.size w w') : PSt W gb n now D v zs w' := by
 obtain ⟨g, m, lo, R, Q, h1, h2, h3, h4, h5⟩ := h.kd
 exact ⟨⟨g, m, lo, R, Q, h1, h2, h3.later hb, strT_to h4 fun k hk => hb.block k (strT_own h4 k hk).1, h5⟩, h.below.trans (hb.mono h.below.size)⟩
theorem PSt.row {W : World} {gb : Nat} {n : Int} {now : List ByteArray} {D : Dk} {v : Value} {zs : List ByteArray} {w : World} (h : PSt W gb n now D v zs w) : StrT w v zs := by
 obtain ⟨g, m, lo, R, Q, h1, h2, h3, h4, h5⟩ := h.kd
 exact h4
theorem PSt.op {W : World} {gb : Nat} {n : Int} {now : List ByteArray} {D : Dk} {v : Value} {zs : List ByteArray} {w w' : World} {g : Pg} {m : List (Value × Value)} {lo : Nat} {R Q : Nat -> Prop} (hn : g.ver <= n) (hk : KD w W.heap.size gb g m lo krules now R Q D) (hv : StrT w v zs) (hl : ∀ k, v.ownBlock = some k -> ¬ Q k /\ ¬ R k /\ k ≠ gb) (hb : Below W.heap.size W w) {Rel : Dk -> Prop} (ho : OpP w W.heap.size gb g m lo krules now R Q false Rel w') : ∃ D', Rel D' /\ PSt W gb n now D' v zs w' := by
 obtain ⟨Q', D', hr, hk', hf, hQ⟩ := ho
 refine ⟨D', hr, ⟨⟨{ g with cl := false }, m, lo, R, Q', rfl, hn, hk', strT_to hv fun k hk => hf.block k (strT_own hv k hk).1 fun e => ?_, fun k hk => ⟨fun e => ?_, (hl k hk).2⟩⟩, ?_⟩⟩
 ·obtain ⟨h1, h2, h3⟩ := hl k hk
  rcases e with e | e
  ·exact h1 e
  ·exact h3 e
 ·rcases hQ _ e with e | e
  ·exact (hl k hk).1 e
  ·have := (strT_own hv k hk).1; omega
 ·exact Frm.below hb hf hb.size fun k _ e => by
   rcases e with e | e
   ·exact hk.QB k e
   ·rw [e]; exact hk.gB
theorem p_submit (HN : Hid NodeC) {W : World} {gb : Nat} {n : Int} {now : List ByteArray} {D : Dk} {v : Value} {zs : List ByteArray} {w : World} (h : PSt W gb n now D v zs w) {s : ByteArray} (hs : s.size <= maxLen) (he : askE krules s = 0) {bud til : Int} (hb1 : 1 <= bud) (hb9 : bud <= 1000000000) (ht0 : 0 <= til) (ht9 : til <= 1000000000) (hfu : fullD D = false) :
  Calls Tryz.prog 27 #[.pointer (some ⟨gb, 0, none⟩), .string s, .int .i64 bud, .int .i64 til] w fun e w' => e = .returned (.tuple #[.int .i64 ((D.rs.length + 1 : Nat) : Int), .int .i64 0]) /\ PSt W gb n now (takeD D (tkOf now s bud til)) v zs w' := by
 obtain ⟨g, m, lo, R, Q, h1, h2, h3, h4, h5⟩ := h.kd
 refine (gSubmit_ok HN h3 h1 hs he hb1 hb9 ht0 ht9 hfu).mono ?_
 rintro e w' ⟨rfl, ho⟩
 rw [h1] at ho
 obtain ⟨D', rfl, ht⟩ := PSt.op h2 h3 h4 h5 h.below ho
 exact ⟨rfl, ht⟩
theorem p_step (HW : Hid TWayC) {W : World} {gb : Nat} {n : Int} {now : List ByteArray} {D : Dk} {v : Value} {zs : List ByteArray} {w : World} (h : PSt W gb n now D v zs w) {i : Nat} (hi : i < D.wk.length) :
  Calls Tryz.prog 28 #[.pointer (some ⟨gb, 0, none⟩), .int .i64 i] w fun e w' => e = .returned (.int .i64 0) /\ ∃ D', DStep krules D i D' /\ PSt W gb n now D' v zs w' := by
 obtain ⟨g, m, lo, R, Q, h1, h2, h3, h4, h5⟩ := h.kd
 refine (gStep_ok HW h3 h1 hi).mono ?_
 rintro e w' ⟨rfl, ho⟩
 rw [h1] at ho
 obtain ⟨D', hr, ht⟩ := PSt.op h2 h3 h4 h5 h.below ho
 exact ⟨rfl, D', hr, ht⟩
theorem p_poll {W : World} {gb : Nat} {n : Int} {now : List ByteArray} {D : Dk} {v : Value} {zs : List ByteArray} {w : World} (h : PSt W gb n now D v zs w) (id : Int) :
  Calls Tryz.prog 29 #[.pointer (some ⟨gb, 0, none⟩), .int .i64 id] w fun e w' => ∃ o c, e = .returned (.agg #[.int .i64 (pollR D id).is, .int .i64 (pollR D id).st, .bool (pollR D id).al, .slice o (pollR D id).us.length c]) /\ w'.ownsRow w.heap.size 9 1 (.slice o (pollR D id).us.length c) (pollR D id).us.length (strV (pollR D id).us) /\ Below w.heap.size w w' /\ PSt W gb n now D v zs w' := by
 obtain ⟨g, m, lo, R, Q, h1, h2, h3, h4, h5⟩ := h.kd
 refine (gPoll_below h3 id).mono ?_
 rintro e w' ⟨o, c, rfl, how, hb⟩
 exact ⟨o, c, rfl, how, hb, h.later hb⟩
theorem p_cost (HN : Hid NodeC) (HW : Hid TWayC) {W : World} {gb : Nat} {n : Int} {now : List ByteArray} {D : Dk} {v : Value} {zs : List ByteArray} {w : World} (h : PSt W gb n now D v zs w) {s : ByteArray} (hs : s.size <= maxLen) (he : askE krules s = 0) :
  Calls Tryz.prog 20 #[.pointer (some ⟨gb, 0, none⟩), .string s] w fun e w' => ∃ k : Nat, e = .returned (.tuple #[.int .i64 k, .int .i64 0]) /\ CostN krules now (queX s) k /\ Below w.heap.size w w' /\ PSt W gb n now D v zs w' := by
 obtain ⟨g, m, lo, R, Q, h1, h2, h3, h4, h5⟩ := h.kd
 refine (cost_any HN HW (h3.gate s hs) s hs (fun h _ => queOk_of h krules now) (que_sizesK s hs)).mono ?_
 intro e w' hp
 obtain ⟨met, h5, hb, hnd, hm, hml⟩ := costP_zero hp he
 exact ⟨met.length, h5, ⟨met, hnd, hm, rfl⟩, hb, h.later hb⟩
theorem p_who (HN : Hid NodeC) (HW : Hid TWayC) {W : World} {gb : Nat} {n : Int} {now : List ByteArray} {D : Dk} {w : World} (h : TSt W gb n now D false [] w) {k : Nat} (hk : k < 6) (a : Nat) :
  Calls Tryz.prog 19 #[.pointer (some ⟨gb, 0, none⟩), .string (kNd k a)] w fun e w' => ∃ o c zs, e = .returned (.tuple #[.slice o zs.length c, .bool true]) /\ Sorted zs /\ zs.length <= 50 /\ (∀ z, z ∈ zs ↔ ∃ u, InN (tsOf now) krules u (kNN k a) /\ thT u = z) /\ PSt W gb n now D (.slice o zs.length c) zs w' := by
 obtain ⟨g, m, lo, R, Q, h1, h2, h3, h4⟩ := h.kd
 obtain ⟨q1, q2, q3, q4, q5⟩ := kNd_que k a hk
 refine (kWho_any (expand_any HN HW (h3.gate (kNd k a) q5) (kNd k a) q5 (fun h _ => queOk_of h krules now) (que_sizesK (kNd k a) q5))).mono ?_
 rintro e w' ⟨o, n, c, er, rfl, hb, he, zs, rfl, hso, hzl, hown, hz⟩
 have e0 : er = 0 := by rw [he, q1, q2, q4]; rfl
 subst e0
 rw [if_pos rfl, q3] at hz
 refine ⟨o, c, zs, rfl, hso, hzl, hz, ⟨⟨g, m, lo, R, Q, h1, h2, h3.later hb, owns_strT hown, fun k hk => ?_⟩, h.below.trans (hb.mono h.below.size)⟩⟩
 have hge := (owns_lt hown k hk).2.1
 refine ⟨fun e => ?_, fun e => ?_, fun e => ?_⟩
 ·have := h3.lt.1 _ e; omega
 ·have := h3.ru.lt _ e; omega
 ·have := row_lt h3.pg; omega
theorem p_put {W : World} {rv : Value} {cs : List Int} (hr : IntsAt W rv cs) (hcs : ∀ c ∈ cs, -9223372036854775808 <= c /\ c <= 9223372036854775807) (hl : cs.length <= 9223372036854775807) {gb : Nat} {n : Int} {now : List ByteArray} {D : Dk} {v : Value} {zs : List ByteArray} {w1 : World} (h : PSt W gb n now D v zs w1) (hn : n <= 1000) (most : Nat) (hm : most <= 40) (hnl : now.length + most <= 50) :
  Calls Tryz.prog 15 #[.pointer (some ⟨gb, 0, none⟩), rv, .int .i64 (most : Nat)] w1 fun e wP => ∃ o c, e = .returned (.tuple #[.slice o (putL cs most).length c, .bool true]) /\ PSt W gb (n + most) (putN now (putL cs most)) D v zs wP := by
 obtain ⟨g, m, lo, R, Q, h1, h2, h3, h4, h5⟩ := h.kd
 have hb := h.below
 have hr1 : IntsAt w1 rv cs := by
  rcases hr with h | ⟨b, off, cap, rfl, hbl, hc⟩
  ·exact Or.inl h
  ·exact Or.inr ⟨b, off, cap, rfl, Nat.lt_of_lt_of_le hbl hb.size, fun i c h => (hb.cell (p := ⟨b, off + i, none⟩) hbl).trans (hc i c h)⟩
 have hB : ∀ b off n cap, rv = .slice (some ⟨b, off, none⟩) n cap -> n ≠ 0 -> b ≠ gb := by
  intro b off n cap e hn
  rcases hr with ⟨⟨x, c, e2⟩, -⟩ | ⟨b', off', cap', e2, hbl, -⟩
  ·rw [e2] at e; injection e with _ e _; omega
  ·rw [e2] at e
   injection e with e _ _
   injection e with e
   injection e with e
   have := h3.gB
   omega
 refine (kPutD h3 h1 (by omega) most hm hnl hr1 hB hcs hl).mono ?_
 rintro e wP ⟨o, c, rfl, hI⟩
 obtain ⟨g', hv', hc', kd'⟩ := hI.kd
 have hlen := putL_len cs most
 refine ⟨o, c, rfl, ⟨⟨g', m, lo, R, Q, hc', by omega, kd', strT_to h4 fun k hk => hI.kept.block k (strT_own h4 k hk).1 (by intro e; injection e with e; exact (h5 k hk).2.2 e), h5⟩, hb.grown hI.kept hb.size (fun j hj => by injection hj with hj; rw [← hj]; exact h3.gB)⟩⟩
theorem kSame_any (v u : Value) (xs ys : List ByteArray) (w : World) (h : StrsAt w v xs) (g : StrsAt w u ys) (hl : xs.length <= maxLen) (gl : ys.length <= maxLen) :
  Calls Tryz.prog 25 #[v, u] w fun e w' => e = .returned (.bool (sameL xs ys)) /\ ∃ n, w' = w.drewN n := by
 unfold maxLen at hl gl
 by_cases hne : xs.length = ys.length
 ·rcases h with ⟨rfl, rfl⟩ | ⟨b, off, cap, rfl, hc⟩
  ·have hy : ys = [] := List.eq_nil_of_length_eq_zero hne.symm
   subst hy
   rcases g with ⟨rfl, -⟩ | ⟨b', off', cap', rfl, gc⟩
   all_goals
    go_enter Tryz.func25, Tryz.ntmps25
    go_wp2
    refine wp_loop_rounds 1 ?_
    rw [rounds_succ]
    go_wp2
    go_ret
    exact ⟨rfl, ⟨0, rfl⟩⟩
  ·rcases g with ⟨rfl, rfl⟩ | ⟨b', off', cap', rfl, gc⟩
   ·have hx : xs = [] := List.eq_nil_of_length_eq_zero hne
    subst hx
    go_enter Tryz.func25, Tryz.ntmps25
    go_wp2
    refine wp_loop_rounds 1 ?_
    rw [rounds_succ]
    go_wp2
    go_ret
    exact ⟨rfl, ⟨0, rfl⟩⟩
   ·obtain ⟨n, hn⟩ : ∃ n, xs.length = n := ⟨_, rfl⟩
    have HX : Hid (xs.length = n) := hn
    have HY : Hid (ys.length = n) := by show _ = _; omega
    rw [← hne, hn]
    rw [hn] at hl
    clear hn hne gl
    go_enter Tryz.func25, Tryz.ntmps25
    go_wp2
    go_loopw [5] (fun i wr => ∃ k d : Nat, k <= n /\ i = .int .i64 k /\ wr = w.drewN d /\ xs.take k = ys.take k) (fun i _ => n - (intOf i).toNat)
    case atStart => exact ⟨0, 0, Nat.zero_le _, rfl, rfl, rfl⟩
    case round =>
     obtain ⟨k, d, hk, rfl, rfl, hh⟩ := hrel
     have HH : Hid (xs.take k = ys.take k) := hh
     clear hh
     by_cases hlt : k < n
     ·have hkx : k < xs.length := by have := HX.out; omega
      have hky : k < ys.length := by have := HY.out; omega
      obtain ⟨x, hx⟩ : ∃ x, xs[k] = x := ⟨_, rfl⟩
      obtain ⟨y, hy⟩ : ∃ y, ys[k] = y := ⟨_, rfl⟩
      have h1 := hc k x (by rw [List.getElem?_eq_getElem hkx, hx])
      have h2 := gc k y (by rw [List.getElem?_eq_getElem hky, hy])
      have HZ : Hid (xs.take (k + 1) = xs.take k ++ [x] /\ ys.take (k + 1) = ys.take k ++ [y]) := ⟨by rw [List.take_succ_eq_append_getElem hkx, hx], by rw [List.take_succ_eq_append_getElem hky, hy]⟩
      have HW : Hid (xs = ys -> x = y) := by
       intro e; subst e; rw [← hx, ← hy]
      clear hkx hky hx hy hc gc
      by_cases hq : (x.toList == y.toList) = true
      ·go_wp2
       go_quiet (fail)
       go_wp2
       go_roundw
       case rel => exact ⟨k + 1, d + nq, by omega, by go_num, rfl, by rw [HZ.out.1, HZ.out.2, HH.out]; rw [byte_eq, decide_eq_true_eq] at hq; rw [hq]⟩
       case measure => simp [intOf]; omega
      ·have hq : (x.toList == y.toList) = false := by simpa using hq
       go_wp2
       go_quiet (fail)
       go_wp2
       go_ret
       refine ⟨ret_bool ?_, ⟨d + nq, drewN_two w d nq⟩⟩
       symm
       refine decide_eq_false (fun e => ?_)
       rw [byte_eq, decide_eq_false_iff_not] at hq
       exact hq (HW.out e)
     ·go_wp2
      go_ret
      refine ⟨ret_bool ?_, ⟨_, rfl⟩⟩
      have := HH.out
      rw [List.take_of_length_le (by have := HX.out; omega), List.take_of_length_le (by have := HY.out; omega)] at this
      exact (decide_eq_true this).symm
 ·have hb : ((xs.length : Int) != (ys.length : Int)) = true := by simp; omega
  have hs : sameL xs ys = false := decide_eq_false (fun e => hne (by rw [e]))
  rw [hs]
  clear hs
  rcases h with ⟨rfl, rfl⟩ | ⟨b, off, cap, rfl, hc⟩
  ·rcases g with ⟨rfl, rfl⟩ | ⟨b', off', cap', rfl, gc⟩
   ·exact absurd rfl hne
   ·have hb : ((0 : Int) != (ys.length : Int)) = true := hb
    go_enter Tryz.func25, Tryz.ntmps25
    go_wp2
    go_ret
    exact ⟨rfl, ⟨0, rfl⟩⟩
  ·rcases g with ⟨rfl, rfl⟩ | ⟨b', off', cap', rfl, gc⟩
   ·have hb : ((xs.length : Int) != (0 : Int)) = true := hb
    go_enter Tryz.func25, Tryz.ntmps25
    go_wp2
    go_ret
    exact ⟨rfl, ⟨0, rfl⟩⟩
   ·go_enter Tryz.func25, Tryz.ntmps25
    go_wp2
    go_ret
    exact ⟨rfl, ⟨0, rfl⟩⟩
def StrK (w w' : World) : Prop := ∀ (k : Nat) (cur : List Value), w.heap[k]? = some (.cells cur.toArray 9 (0, 0)) -> w'.heap[k]? = w.heap[k]?
theorem StrK.of_below {w w' : World} (h : Below w.heap.size w w') : StrK w w' := fun k _ hk => h.block k (row_lt hk)
theorem StrK.strT {w w' : World} (h : StrK w w') {v : Value} {xs : List ByteArray} (hs : StrT w v xs) : StrT w' v xs := hs.move h
theorem g_has {w : World} {v : Value} {xs : List ByteArray} (h : StrT w v xs) (hl : xs.length <= 100) (s : ByteArray) : Calls Tryz.prog 18 #[v, .string s] w fun e w' => e = .returned (.bool (hasL xs s)) /\ w' = w := kHas_any v xs s w h.strs (by unfold maxLen; omega)
theorem g_same {w : World} {v u : Value} {xs : List ByteArray} (h : StrT w v xs) (g : StrT w u xs) (hl : xs.length <= 100) : Calls Tryz.prog 25 #[v, u] w fun e w' => e = .returned (.bool true) /\ Below w.heap.size w w' := by
 refine (kSame_any v u xs xs w h.strs g.strs (by unfold maxLen; omega) (by unfold maxLen; omega)).mono ?_
 rintro e w' ⟨rfl, hd⟩
 exact ⟨by simp [sameL], below_draw hd⟩
theorem kNodeU (c : Int) (h1 : -9223372036854775808 <= c) (h2 : c <= 9223372036854775807) :
  ∃ k a, k < 6 /\ ∀ w, Calls Tryz.prog 22 #[.int .i64 c] w fun e w' => e = .returned (.string (kNd k a)) /\ Below w.heap.size w w' := by
 have hp := fun w => kPick_any c 1099511627776 w h1 h2 (by decide) (by decide)
 obtain ⟨b1, b2⟩ := pickN_bd c 1099511627776 (by decide)
 obtain ⟨v, hv⟩ := Int.eq_ofNat_of_zero_le b1
 rw [hv] at hp b2
 exact ⟨v % 6, v / 16, by omega, fun w => kNode_k c v (v % 6) w (hp w) (by omega) rfl (by omega)⟩
end Go.Proofs.YtalmoiogbdahcaaGreat
