import Derived.Test.YtalmoiogbdahcaaGreatPKrlB
import Derived.Test.YtalmoiogbdahcaaGreatTDskT
import Derived.Test.YtalmoiogbdahcaaGreatTAskA
import Derived.Test.YtalmoiogbdahcaaGreatPKepB
namespace Go.Proofs.YtalmoiogbdahcaaGreat
set_option maxRecDepth 100000
set_option maxHeartbeats 8000000
open Go.RowKit Go.Shelf
structure GPl (U xs now : List ByteArray) : Prop where
 tups : TupsOk U now
 uok : UOk U
 cov : Cov U xs
 sz : ∀ t ∈ tsOf now, t.2.isTh = true -> t.2.k.size + 1 + t.2.n.size <= maxLen
 inj : ∀ t ∈ tsOf now, ∀ t' ∈ tsOf now, t.2.isTh = true -> t'.2.isTh = true -> thT t.2 = thT t'.2 -> t.2 = t'.2
theorem GateQ.pl {U xs now : List ByteArray} {b : Nat} {g : Pg} {w : World} (h : GateQ U xs now b g w) : GPl U xs now := ⟨h.tups, h.uok, h.cov, h.sz, h.inj⟩
theorem wk_new {U xs now : List ByteArray} (h : GPl U xs now) {lo tb : Nat} {f : Nod -> Option Value} {who : Nod -> Nat} {L : TL} {S : TS} {w1 w1' w1'' w2 : World} (hB : Bld U (tsOf now) xs lo tb f who L S w1 w1') {x : Nod} {wb nb mb sb : Nat} {L' : TL} {S' : TS} {sv : Value} (hN : WNew U (tsOf now) xs lo tb f who L S w1'' x wb nb mb sb L' S' sv w2) {mr : Nat} (hm : L'.mb = mr) : WkAt xs now x mr (fun k => lo <= k /\ k < w2.heap.size) wb [x] 0 w2 := by
 have hu : S'.uss = S.uss := hN.uss
 have hmem : ∀ u, u ∈ S'.uss ↔ u.isTh = true /\ ∃ t ∈ tsOf now, t.2 = u := by rw [hu]; exact hB.us
 refine ⟨⟨U, lo, tb, sb, f, who, nb, mb, L', S', sv, hN.wa, hN.wa.inLo hN.low, hm, ⟨h.cov, hB.sm, by rw [hu]; exact hB.th, hB.no, by rw [hu]; exact Nat.le_trans hB.ul hB.ta.tn, ?_, ?_, hmem⟩⟩, ⟨rfl, fun y hy => by rw [List.mem_singleton] at hy; rw [hy]; exact Rch.here, fun i y hi => by omega⟩, fun k e => e.2⟩
 ·intro u hu
  obtain ⟨h1, t, ht, e⟩ := (hmem u).1 hu
  subst e
  exact h.sz t ht h1
 ·intro i j u v hi hj e
  obtain ⟨h1, t, ht, e1⟩ := (hmem u).1 (List.mem_of_getElem? hi)
  obtain ⟨h2, t', ht', e2⟩ := (hmem v).1 (List.mem_of_getElem? hj)
  subst e1 e2
  have := h.inj t ht t' ht' h1 h2 e
  have nd : S'.uss.Nodup := hN.wa.ta.t.us.nd
  rw [this] at hi
  exact (List.getElem?_inj (List.getElem?_eq_some_iff.1 hi).1 nd).1 (hi.trans hj.symm)
def TaskP (xs now : List ByteArray) (x : Nod) (mr lo : Nat) (w w' : World) (wkb : Nat) : Prop :=
 Below w.heap.size w w' /\ ∃ O : Nat -> Prop, WkAt xs now x mr O wkb [x] 0 w' /\ ∀ k, O k -> lo <= k
theorem TaskP.low {xs now : List ByteArray} {x : Nod} {mr lo lo' : Nat} {w w' : World} {wkb : Nat} (h : TaskP xs now x mr lo w w' wkb) (hl : lo' <= lo) : TaskP xs now x mr lo' w w' wkb := by
 obtain ⟨h1, O, h2, h3⟩ := h
 exact ⟨h1, O, h2, fun k e => Nat.le_trans hl (h3 k e)⟩
theorem frm_more {w w' : World} {b : Nat} (h : Frm (fun k => k = b) w w') (i : Nat) (v : Value) : Frm (fun k => k = b) w (w'.setCell ⟨b, i, none⟩ v) := by
 have h2 : Frm (fun k => k = b) w' (w'.setCell ⟨b, i, none⟩ v) := ⟨rfl, rfl, rfl, by simp [World.setCell], fun k _ hx => Below.heap_setCell _ _ _ _ hx⟩
 exact h.trans h2 fun _ _ e => e
theorem TaskP.set {xs now : List ByteArray} {x : Nod} {mr lo : Nat} {w w3 w4 : World} {wkb : Nat} (h : TaskP xs now x mr lo w w3 wkb) {b : Nat} (h1 : w.heap.size <= b) (h2 : b < lo) {cs : List Value} (hr : w3.heap[b]? = some (.cells cs.toArray 115 (0, 0))) (hf : Frm (fun k => k = b) w3 w4) : TaskP xs now x mr lo w w4 wkb := by
 obtain ⟨hb, O, hk, ho⟩ := h
 refine ⟨hb.trans ⟨hf.os, hf.tape, hf.output, hf.size, fun k hk' => hf.block k (Nat.lt_of_lt_of_le hk' hb.size) (by omega)⟩, O, hk.keep hf.size (fun k e => hf.block k (hk.lt k e) (by have := ho k e; omega)) ?_, ho⟩
 refine hk.rules.move (fun Gd m hm => hf.block _ hm.lt fun e => ?_) fun g cur hg => hf.block g (row_lt hg) fun e => ?_
 ·obtain ⟨es, c, q, -⟩ := hm
  rw [e, hr] at q; injection q with q; cases q
 ·rw [e, hr] at hg; injection hg with hg; injection hg with _ hg; revert hg; decide
theorem task_chain (HN : Hid NodeC) {U xs now : List ByteArray} (h : GPl U xs now) {mb : Nat} {tv : Value} {w w0 : World} (hb0 : Below w.heap.size w w0) (hr : RulesN w0 mb xs) (ht : StrT w0 tv now) {x : Nod} (hx : okNd x) (hth : x.isTh = false) (hru : x.r ∈ U) :
  Calls Tryz.prog 84 #[.map (some mb), tv] w0 fun e w1 => ∃ tb, e = .returned (.pointer (some ⟨tb, 0, none⟩)) /\ Below w0.heap.size w0 w1 /\ Hid (∀ w1', Below w1.heap.size w1 w1' -> Calls Tryz.prog 43 #[.pointer (some ⟨tb, 0, none⟩), .agg #[.string x.k, .string x.n, .string x.r]] w1' fun e w2 => ∃ wb, e = .returned (.pointer (some ⟨wb, 0, none⟩)) /\ Below w0.heap.size w0 w2 /\ Hid (TaskP xs now x mb w0.heap.size w w2 wb)) := by
 refine (of_any2 HN h.uok hr ht.strs h.tups).mono ?_
 rintro e w1 ⟨tb, f, who, L, S, he, hB, hL⟩
 refine ⟨tb, he, hB.b, ?_⟩
 intro w1' hb1
 have hT : TA U (tsOf now) xs w0.heap.size tb w1'.heap.size f who L S w1' := (hB.ta.below hb1).wide (hB.ta.below hb1).sb (Nat.le_refl _)
 refine (walkNew2 HN hT hx hth hru (by have := hB.tl; have := hB.ta.tn; omega)).mono ?_
 rintro e w2 ⟨wb, nb, mb', sb, L', S', sv, he2, hN, hL'⟩
 have hb02 : Below w0.heap.size w0 w2 := (hB.b.trans (hb1.mono hB.b.size)).trans hN.bel
 refine ⟨wb, he2, hb02, hb0.trans (hb02.mono hb0.size), _, wk_new h hB hN (hL'.trans hL), fun k e => e.1⟩
theorem gTask_any (HN : Hid NodeC) {U xs now : List ByteArray} (h : GPl U xs now) {b : Nat} {g : Pg} {w : World} (hg : PgAt w b g) (hr : RulesN w g.mb xs) (ht : StrT w g.tv now) {x y : Nod} (hx : okNd x) (hth : x.isTh = false) (hru : x.r ∈ U) (bud til : Int) :
  Calls Tryz.prog 60 #[.pointer (some ⟨b, 0, none⟩), .agg #[.string x.k, .string x.n, .string x.r, .string y.k, .string y.n, .string y.r], .int .i64 bud, .int .i64 til] w fun e w' => ∃ wkb, e = .returned (.agg #[.string x.k, .string x.n, .string x.r, .string y.k, .string y.n, .string y.r, .pointer (some ⟨wkb, 0, none⟩), .int .i64 bud, .int .i64 til]) /\ TaskP xs now x g.mb w.heap.size w w' wkb := by
 have HOF : Hid (∀ w0, Below w.heap.size w w0 -> Calls Tryz.prog 84 #[.map (some g.mb), g.tv] w0 fun e w1 => ∃ tb, e = .returned (.pointer (some ⟨tb, 0, none⟩)) /\ Below w0.heap.size w0 w1 /\ Hid (∀ w1', Below w1.heap.size w1 w1' -> Calls Tryz.prog 43 #[.pointer (some ⟨tb, 0, none⟩), .agg #[.string x.k, .string x.n, .string x.r]] w1' fun e w2 => ∃ wb, e = .returned (.pointer (some ⟨wb, 0, none⟩)) /\ Below w0.heap.size w0 w2 /\ Hid (TaskP xs now x g.mb w0.heap.size w w2 wb))) := fun w0 hb0 => task_chain HN h hb0 (hr.below hb0) (strT_to ht fun k hk => hb0.block k (strT_own ht k hk).1) hx hth hru
 have c30 := row_cell hg (j := 3) rfl
 have hlt := row_lt hg
 have htv : ∃ o n c, g.tv = .slice o n c := by
  rcases ht with ⟨e, -⟩ | ⟨b, cap, cur, e, -⟩
  ·exact ⟨_, _, _, e⟩
  ·exact ⟨_, _, _, e⟩
 obtain ⟨o, n, c, htv⟩ := htv
 have c3 : w.cell? ⟨b, 3, none⟩ = some (.slice o n c) := by rw [← htv]; exact c30
 have HG : Hid (∀ w0, Below w.heap.size w w0 -> w0.cell? ⟨b, 2, none⟩ = some (.map (some g.mb)) /\ w0.cell? ⟨b, 3, none⟩ = some (.slice o n c)) := by
  intro w0 hb0
  have hg0 := (hb0.block b hlt).trans hg
  exact ⟨row_cell hg0 (j := 2) rfl, by rw [← htv]; exact row_cell hg0 (j := 3) rfl⟩
 clear c3 c30
 rw [htv] at HOF
 generalize g.mb = mb at *
 clear hg hr ht htv h HN
 go_enter Tryz.func60, Tryz.ntmps60
 go_wp2
 have hb0 : Below w.heap.size w ((w.alloc (.cells #[.string x.k, .string x.n, .string x.r, .string y.k, .string y.n, .string y.r] 77)).alloc (.cells #[.string { data := #[] }, .string { data := #[] }, .string { data := #[] }, .string { data := #[] }, .string { data := #[] }, .string { data := #[] }, .pointer none, .int .i64 0, .int .i64 0] 115)) := by repeat (first | exact Below.refl _ _ | refine Below.setCell ?_ (by first | exact Nat.le_refl _ | (simp; done) | (simp; omega)) _ | refine below_drewN ?_ _ | refine Below.drew ?_ | refine Below.alloc ?_ (by first | exact Nat.le_refl _ | (simp; done) | (simp; omega)) _)
 have hq0 : ((w.alloc (.cells #[.string x.k, .string x.n, .string x.r, .string y.k, .string y.n, .string y.r] 77)).alloc (.cells #[.string { data := #[] }, .string { data := #[] }, .string { data := #[] }, .string { data := #[] }, .string { data := #[] }, .string { data := #[] }, .pointer none, .int .i64 0, .int .i64 0] 115)).heap[w.heap.size]? = some (.cells (queL x y).toArray 77 (0, 0)) := alloc_row (alloc_new w (queL x y) _) _
 have hr0 : ((w.alloc (.cells #[.string x.k, .string x.n, .string x.r, .string y.k, .string y.n, .string y.r] 77)).alloc (.cells #[.string { data := #[] }, .string { data := #[] }, .string { data := #[] }, .string { data := #[] }, .string { data := #[] }, .string { data := #[] }, .pointer none, .int .i64 0, .int .i64 0] 115)).heap[w.heap.size + 1]? = some (.cells [.string { data := #[] }, .string { data := #[] }, .string { data := #[] }, .string { data := #[] }, .string { data := #[] }, .string { data := #[] }, .pointer none, .int .i64 0, .int .i64 0].toArray 115 (0, 0)) := by
  have h1 := alloc_new (w.alloc (.cells #[.string x.k, .string x.n, .string x.r, .string y.k, .string y.n, .string y.r] 77)) [.string { data := #[] }, .string { data := #[] }, .string { data := #[] }, .string { data := #[] }, .string { data := #[] }, .string { data := #[] }, .pointer none, .int .i64 0, .int .i64 0] 115
  have e : (w.alloc (.cells #[.string x.k, .string x.n, .string x.r, .string y.k, .string y.n, .string y.r] 77)).heap.size = w.heap.size + 1 := by show (w.heap.push _).size = _; simp
  rw [e] at h1
  exact h1
 generalize ((w.alloc (.cells #[.string x.k, .string x.n, .string x.r, .string y.k, .string y.n, .string y.r] 77)).alloc (.cells #[.string { data := #[] }, .string { data := #[] }, .string { data := #[] }, .string { data := #[] }, .string { data := #[] }, .string { data := #[] }, .pointer none, .int .i64 0, .int .i64 0] 115)) = w0 at *
 have HOF0 : Hid (∀ w1, Below w0.heap.size w0 w1 -> Calls Tryz.prog 84 #[.map (some mb), .slice o n c] w1 fun e w2 => ∃ tb, e = .returned (.pointer (some ⟨tb, 0, none⟩)) /\ w2.cell? ⟨w.heap.size, 0, none⟩ = some (.string x.k) /\ w2.cell? ⟨w.heap.size, 1, none⟩ = some (.string x.n) /\ w2.cell? ⟨w.heap.size, 2, none⟩ = some (.string x.r) /\ Hid (∀ w1', Below w2.heap.size w2 w1' -> Calls Tryz.prog 43 #[.pointer (some ⟨tb, 0, none⟩), .agg #[.string x.k, .string x.n, .string x.r]] w1' fun e w3 => ∃ wb, e = .returned (.pointer (some ⟨wb, 0, none⟩)) /\ Hid (w3.heap[w.heap.size]? = some (.cells (queL x y).toArray 77 (0, 0)) /\ w3.heap[w.heap.size + 1]? = some (.cells [.string { data := #[] }, .string { data := #[] }, .string { data := #[] }, .string { data := #[] }, .string { data := #[] }, .string { data := #[] }, .pointer none, .int .i64 0, .int .i64 0].toArray 115 (0, 0)) /\ TaskP xs now x mb w0.heap.size w w3 wb))) := by
  intro w1 hb1
  have hbw : Below w.heap.size w w1 := hb0.trans (hb1.mono hb0.size)
  have hq1 := (hb1.block _ (row_lt hq0)).trans hq0
  have hr1 := (hb1.block _ (row_lt hr0)).trans hr0
  refine (HOF.out w1 hbw).mono ?_
  rintro e w2 ⟨tb, he, hb2, HK⟩
  have hq2 := (hb2.block _ (row_lt hq1)).trans hq1
  refine ⟨tb, he, row_cell hq2 (j := 0) rfl, row_cell hq2 (j := 1) rfl, row_cell hq2 (j := 2) rfl, ?_⟩
  intro w1' hb1'
  refine (HK.out w1' hb1').mono ?_
  rintro e w3 ⟨wb, he3, hb3, hT⟩
  exact ⟨wb, he3, (hb3.block _ (row_lt hq1)).trans hq1, (hb3.block _ (row_lt hr1)).trans hr1, hT.out.low hb1.size⟩
 obtain ⟨g2, g3⟩ := HG.out w0 hb0
 have l0 : w0.cell? ⟨w.heap.size, 0, none⟩ = some (.string x.k) := row_cell hq0 (j := 0) rfl
 have l1 : w0.cell? ⟨w.heap.size, 1, none⟩ = some (.string x.n) := row_cell hq0 (j := 1) rfl
 have l2 : w0.cell? ⟨w.heap.size, 2, none⟩ = some (.string x.r) := row_cell hq0 (j := 2) rfl
 have hz0 : w.heap.size + 1 < w0.heap.size := row_lt hr0
 clear HOF HG hq0 hr0 hb0
 go_cut [9] from 10 to 22 (fun v w3 => ∃ wb, v = .pointer (some ⟨wb, 0, none⟩) /\ w3.heap[w.heap.size]? = some (.cells (queL x y).toArray 77 (0, 0)) /\ w3.heap[w.heap.size + 1]? = some (.cells [.string { data := #[] }, .string { data := #[] }, .string { data := #[] }, .string { data := #[] }, .string { data := #[] }, .string { data := #[] }, .pointer none, .int .i64 0, .int .i64 0].toArray 115 (0, 0)) /\ TaskP xs now x mb w0.heap.size w w3 wb)
 case first =>
  go_region_with (first | (go_at_call 84; refine (HOF0.out _ (by repeat (first | exact Below.refl _ _ | refine Below.setCell ?_ (by first | exact Nat.le_refl _ | (simp; done) | (simp; omega)) _ | refine below_drewN ?_ _ | refine Below.drew ?_ | refine Below.alloc ?_ (by first | exact Nat.le_refl _ | (simp; done) | (simp; omega)) _))).mono ?_; rintro e w2 ⟨tb, rfl, m0, m1, m2, HWK⟩) | (go_at_call 43; refine (HWK.out _ (by repeat (first | exact Below.refl _ _ | refine Below.setCell ?_ (by first | exact Nat.le_refl _ | (simp; done) | (simp; omega)) _ | refine below_drewN ?_ _ | refine Below.drew ?_ | refine Below.alloc ?_ (by first | exact Nat.le_refl _ | (simp; done) | (simp; omega)) _))).mono ?_; rintro e w3 ⟨wb, rfl, HF⟩))
  all_goals (go_wp2_with fail; go_meet)
  all_goals exact ⟨wb, rfl, HF.out⟩
 case rest =>
  obtain ⟨wb, rfl, hF⟩ := hcut
  obtain ⟨w3, rfl⟩ : ∃ w3, w3 = wc := ⟨_, rfl⟩
  have HF : Hid (w3.heap[w.heap.size]? = some (.cells (queL x y).toArray 77 (0, 0)) /\ w3.heap[w.heap.size + 1]? = some (.cells [.string { data := #[] }, .string { data := #[] }, .string { data := #[] }, .string { data := #[] }, .string { data := #[] }, .string { data := #[] }, .pointer none, .int .i64 0, .int .i64 0].toArray 115 (0, 0)) /\ TaskP xs now x mb w0.heap.size w w3 wb) := hF
  clear hF HOF0
  have hq3 := HF.out.1
  have hr3 := HF.out.2.1
  have p0 := row_cell hq3 (j := 0) rfl
  have p1 := row_cell hq3 (j := 1) rfl
  have p2 := row_cell hq3 (j := 2) rfl
  have p3 := row_cell hq3 (j := 3) rfl
  have p4 := row_cell hq3 (j := 4) rfl
  have p5 := row_cell hq3 (j := 5) rfl
  have r0 := row_cell hr3 (j := 0) rfl
  have r1 := row_cell hr3 (j := 1) rfl
  have r2 := row_cell hr3 (j := 2) rfl
  have r3 := row_cell hr3 (j := 3) rfl
  have r4 := row_cell hr3 (j := 4) rfl
  have r5 := row_cell hr3 (j := 5) rfl
  have r6 := row_cell hr3 (j := 6) rfl
  have r7 := row_cell hr3 (j := 7) rfl
  have r8 := row_cell hr3 (j := 8) rfl
  have z0 := row_frozen hr3 0
  have z1 := row_frozen hr3 1
  have z2 := row_frozen hr3 2
  have z3 := row_frozen hr3 3
  have z4 := row_frozen hr3 4
  have z5 := row_frozen hr3 5
  have z6 := row_frozen hr3 6
  have z7 := row_frozen hr3 7
  have z8 := row_frozen hr3 8
  clear hq3 hr3
  go_wp2
  refine bodyPost_ret (v := .agg #[.string x.k, .string x.n, .string x.r, .string y.k, .string y.n, .string y.r, .pointer (some ⟨wb, 0, none⟩), .int .i64 bud, .int .i64 til]) (by simp [results, Tryz.results60, go_sem, r0, r1, r2, r3, r4, r5, r6, r7, r8]) rfl ⟨wb, rfl, ?_⟩
  refine (HF.out.2.2.set (b := w.heap.size + 1) (by omega) hz0 HF.out.2.1 ?_).low (by omega)
  repeat refine frm_more ?_ _ _
  exact Frm.refl _ _
def TakP (xs : List ByteArray) (mr : Nat) (R : Nat -> Prop) (db : Nat) (Q O : Nat -> Prop) (D : Dk) (t : Tk) (wb : Nat) (w w' : World) : Prop :=
 Frm Q w w' /\ ∃ Q' tv' ls', DkAt xs mr R db Q' (takeD D t) tv' wb ls' w' /\ ∀ k, Q' k -> Q k \/ O k \/ (w.heap.size <= k /\ k < w'.heap.size)
theorem take_chain {xs : List ByteArray} {mr : Nat} {R : Nat -> Prop} {db : Nat} {Q : Nat -> Prop} {D : Dk} {tv : Value} {wb : Nat} {ls : List Rl} {w : World} (h : DkAt xs mr R db Q D tv wb ls w) (hl : D.rs.length < 30) {O : Nat -> Prop} {wkb : Nat} {met : List Nod} {t : Tk} (hT : TkNew xs mr R Q O wkb met t w) :
  Calls Tryz.prog 108 #[.pointer (some ⟨w.heap.size + 1, 0, none⟩), .int .i64 D.clock] ((w.alloc (.cells (tkL t wkb).toArray 115)).alloc (.cells (rqL (newR t) (.slice none 0 0) (.pointer (some ⟨w.heap.size, 0, none⟩))).toArray 161)) fun e w3 => e = .returned (.tuple #[]) /\ w3.cell? ⟨db, 2, none⟩ = some tv /\
   ∃ o c w5, (Builtin.append_ #[155, 155] 155 #[tv, .slice (some ⟨w3.heap.size, 0, none⟩) 1 1]).run Tryz.prog (w3.alloc (.cells #[.pointer (some ⟨w.heap.size + 1, 0, none⟩)] 158)) = .ok (.slice o (D.rs.length + 1) c) w5 /\ w5.cell? ⟨db, 2, none⟩ = some tv /\ w5.frozen? ⟨db, 2, none⟩ = false /\ (w5.setCell ⟨db, 2, none⟩ (.slice o (D.rs.length + 1) c)).cell? ⟨db, 2, none⟩ = some (.slice o (D.rs.length + 1) c) /\ Hid (TakP xs mr R db Q O D t wb w (w5.setCell ⟨db, 2, none⟩ (.slice o (D.rs.length + 1) c))) := by
 have hO := hT.wk.lt
 have hR2 := hT.rq
 have hb2 : Below w.heap.size w ((w.alloc (.cells (tkL t wkb).toArray 115)).alloc (.cells (rqL (newR t) (.slice none 0 0) (.pointer (some ⟨w.heap.size, 0, none⟩))).toArray 161)) := by repeat (first | exact Below.refl _ _ | refine Below.setCell ?_ (by first | exact Nat.le_refl _ | (simp; done) | (simp; omega)) _ | refine below_drewN ?_ _ | refine Below.drew ?_ | refine Below.alloc ?_ (by first | exact Nat.le_refl _ | (simp; done) | (simp; omega)) _)
 refine (rqLate_any hR2 D.clock).mono ?_
 rintro e w3 ⟨rfl, hf3, hz3, tp', hR3⟩
 have hs2 : w.heap.size + 2 <= w3.heap.size := by have := hR3.lt (w.heap.size + 1) (Or.inr (Or.inr rfl)); omega
 have hb3 : Below w.heap.size w w3 := hb2.trans ⟨hf3.os, hf3.tape, hf3.output, hf3.size, fun k hk => hf3.block k (Nat.lt_of_lt_of_le hk hb2.size) (by omega)⟩
 have hD3 := h.below hb3
 have hlen : ls.length <= 100000000 := by rw [h.len]; omega
 obtain ⟨v', w5, hrun, hrow, hgr, hown⟩ := app_at Tryz.underlying155 Tryz.infoReq rfl (by decide) (by decide) w3 0 tv ls.length (ls.map rlV) [.pointer (some ⟨w.heap.size + 1, 0, none⟩)] rfl (by intro u hu; simp at hu; rw [hu]; rfl) hD3.row (Nat.zero_le _) hlen
 obtain ⟨o, c, rfl⟩ := owns_form hrow
 have hdt : ∀ k, tv.ownBlock = some k -> k ≠ db := by
  intro k hk e
  obtain ⟨-, -, cur, h1⟩ := owns_lt h.row k hk
  rw [e, h.blk] at h1
  injection h1 with h1
  injection h1 with _ h1
  revert h1; decide
 have hdb5 : w5.heap[db]? = w3.heap[db]? := hgr.block db (row_lt hD3.blk) fun e => hdt db e.symm rfl
 have hblk5 := hdb5.trans hD3.blk
 have hlr : ls.length + 1 = D.rs.length + 1 := by rw [h.len]
 rw [hlr] at hrun
 refine ⟨rfl, row_cell hD3.blk (j := 2) rfl, o, c, w5, hrun, row_cell hblk5 (j := 2) rfl, row_frozen hblk5 2, row_cell (row_set hblk5 2 _) (j := 2) rfl, ?_⟩
 have hf5 : Frm (fun k => k = db \/ tv.ownBlock = some k) w (w5.setCell ⟨db, 2, none⟩ (.slice o (D.rs.length + 1) c)) := by
  refine ((Frm.of_below hb3).trans (Frm.of_grown (X := fun k => tv.ownBlock = some k) hgr fun k e => e) fun j _ e => Or.inr e).trans (frm_set _ _ _ _) fun j _ e => Or.inl e
 have hz5 := setSz w5 ⟨db, 2, none⟩ (.slice o (D.rs.length + 1) c)
 have hPQ : ∀ k, (O k \/ k = w.heap.size \/ k = w.heap.size + 1) -> ¬ Q k := by
  intro k e q
  have := h.lt k q
  rcases e with e | e | e
  ·exact hT.oq k e q
  ·omega
  ·omega
 have hR6 : RqAt xs mr (w.heap.size + 1) (fun k => O k \/ k = w.heap.size \/ k = w.heap.size + 1) (lateR D.clock (newR t)) (.slice none 0 0) tp' (w5.setCell ⟨db, 2, none⟩ (.slice o (D.rs.length + 1) c)) := by
  refine hR3.keep (by rw [hz5]; exact hgr.size) (fun k hk => ?_) (h.ru.frm hf5 fun k hk e => ?_).now
  ·have hkq := hPQ k hk
   have h1 : (w5.setCell ⟨db, 2, none⟩ (.slice o (D.rs.length + 1) c)).heap[k]? = w5.heap[k]? := Below.heap_setCell _ _ _ _ (fun e => hkq (e ▸ h.dQ))
   exact h1.trans (hgr.block k (hR3.lt k hk) fun e => hkq (h.tQ k e.symm))
  ·rcases e with e | e
   ·exact h.rq k hk (e ▸ h.dQ)
   ·exact h.rq k hk (h.tQ k e)
 have key := h.take (w' := w5.setCell ⟨db, 2, none⟩ (.slice o (D.rs.length + 1) c)) (O := O) (fun k e => ⟨hO k e, hT.oq k e, fun r => hT.ro k r e⟩) (P := fun k => O k \/ k = w.heap.size \/ k = w.heap.size + 1) (fun k e => by
  rcases e with e | e | e
  ·exact Or.inl e
  ·exact Or.inr (by omega)
  ·exact Or.inr (by omega)) hR6 hl hf5 (row_set hblk5 2 _) (by
   rw [← hlr]
   exact owns_to hrow fun g hg => Below.heap_setCell _ _ _ _ (by
    intro e
    obtain ⟨-, -, cur, h1⟩ := owns_lt hrow g hg
    have e : g = db := e
    rw [e, hblk5] at h1
    injection h1 with h1
    injection h1 with _ h1
    revert h1; decide)) (fun k hk => by
   rcases hown k (by rw [hlr]; exact hk) with e | e
   ·exact Or.inl e
   ·refine Or.inr ⟨by omega, fun p => ?_⟩
    have := hR3.lt k p
    omega)
 exact ⟨hf5.mono fun k _ e => by
  rcases e with e | e
  ·rw [e]; exact h.dQ
  ·exact h.tQ k e, _, _, _, key, fun k e => e⟩
theorem dkTake_any {xs : List ByteArray} {mr : Nat} {R : Nat -> Prop} {db : Nat} {Q : Nat -> Prop} {D : Dk} {tv : Value} {wb : Nat} {ls : List Rl} {w : World} (h : DkAt xs mr R db Q D tv wb ls w) (hl : D.rs.length < 30) {O : Nat -> Prop} {wkb : Nat} {met : List Nod} {t : Tk} (hT : TkNew xs mr R Q O wkb met t w) :
  Calls Tryz.prog 59 #[.pointer (some ⟨db, 0, none⟩), .agg #[.string t.x.k, .string t.x.n, .string t.x.r, .string t.y.k, .string t.y.n, .string t.y.r, .pointer (some ⟨wkb, 0, none⟩), .int .i64 t.bud, .int .i64 t.til]] w fun e w' => e = .returned (.int .i64 ((D.rs.length + 1 : Nat) : Int)) /\ TakP xs mr R db Q O D t wb w w' := by
 have HC : Hid _ := take_chain h hl hT
 have d1 := row_cell h.blk (j := 1) rfl
 have hlt := row_lt h.blk
 have d1a := fun o => row_cell (alloc_row h.blk o) (j := 1) rfl
 have d1b := fun o o' => row_cell (alloc_row (alloc_row h.blk o) o') (j := 1) rfl
 obtain ⟨tx, tc, htv⟩ := owns_form h.row
 have hlen := h.len
 rw [htv, hlen] at HC
 generalize TakP xs mr R db Q O D t wb w = PP at *
 unfold tkL rqL newR at HC
 generalize t.x = x at *
 generalize t.y = y at *
 generalize t.bud = bud at *
 generalize t.til = til at *
 generalize D.clock = clock at *
 generalize D.rs.length = N at *
 clear h hT htv hlen
 go_enter Tryz.func59, Tryz.ntmps59
 go_wp2_with (first | (go_at_call 108; refine (Calls.mono HC.out) ?_; rintro e w3 ⟨rfl, k2, o, c, w5, hrun, k5, z5, k6, HP⟩) | (at_builtin; refine wpList_app_run rfl (.tmp 19) (.tmp 21) 155 rfl _ _ _ rfl rfl hrun ?_))
 go_ret
 exact ⟨rfl, HP.out⟩
end Go.Proofs.YtalmoiogbdahcaaGreat
