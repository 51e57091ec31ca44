import Derived.Test.YtalmoiogbdahcaaGreatYTieC0
import Derived.Deep.CutRange
namespace Go.Proofs.YtalmoiogbdahcaaGreat
set_option maxRecDepth 100000
set_option maxHeartbeats 8000000
open Go.RowKit
def thrL (ts : List (Nod × Nod)) (x : Nod) (a b : ByteArray) : List Nod := ((subsOf ts (x.to a)).filter (·.isTh)).map (·.to b)
def outK (l : List Nod) (b : ByteArray) (k : Nat) : List Nod := ((l.take k).filter (·.isTh)).map (·.to b)
theorem outK_yes {l : List Nod} {b : ByteArray} {k : Nat} {y : Nod} (hy : l[k]? = some y) (ht : y.isTh = true) : outK l b (k + 1) = outK l b k ++ [y.to b] := by
 obtain ⟨hk, e⟩ := List.getElem?_eq_some_iff.1 hy
 unfold outK
 rw [List.take_succ_eq_append_getElem hk, e, List.filter_append, List.map_append]
 simp [ht]
theorem outK_no {l : List Nod} {b : ByteArray} {k : Nat} {y : Nod} (hy : l[k]? = some y) (ht : y.isTh = false) : outK l b (k + 1) = outK l b k := by
 obtain ⟨hk, e⟩ := List.getElem?_eq_some_iff.1 hy
 unfold outK
 rw [List.take_succ_eq_append_getElem hk, e, List.filter_append, List.map_append]
 simp [ht]
theorem outK_len (l : List Nod) (b : ByteArray) (k : Nat) : (outK l b k).length <= l.length := by
 unfold outK
 rw [List.length_map]
 have h1 := List.length_filter_le (fun y : Nod => y.isTh) (l.take k)
 rw [List.length_take] at h1
 omega
structure ThInv (U : List ByteArray) (ts : List (Nod × Nod)) (xs : List ByteArray) (lo tb sb : Nat) (f : Nod -> Option Value) (who : Nod -> Nat) (L : TL) (S : TS) (w : World) (bx : List Value) (rv : Value) (l : List Nod) (S2 : TS) (b : ByteArray) (k : Nat) (nm : Value) (L3 : TL) (S3 : TS) (wr : World) : Prop where
 ta : TA U ts xs lo tb sb f who L3 S3 wr
 st : RStep U lo tb f who L S w L3 S3 wr
 bxo : wr.heap[w.heap.size]? = some (.cells bx.toArray 106 (0, 0))
 rvo : CxRow wr rv (l.map (cxN S2))
 rb : ∀ g n c, rv = .slice (some ⟨g, 0, none⟩) n c -> g < w.heap.size /\ ∃ cur, wr.heap[g]? = some (.cells cur 136 (0, 0))
 le : S2.le S3
 nmo : wr.ownsRow (w.heap.size + 1) 136 1 nm (outK l b k).length ((outK l b k).map (cxN S3))
 kn : ∀ y ∈ outK l b k, Kn S3 y
theorem ThInv.next {U : List ByteArray} {ts : List (Nod × Nod)} {xs : List ByteArray} {lo tb sb : Nat} {f : Nod -> Option Value} {who : Nod -> Nat} {L : TL} {S : TS} {w : World} {bx : List Value} {rv : Value} {l : List Nod} {S2 : TS} {b : ByteArray} {k : Nat} {nm : Value} {L3 : TL} {S3 : TS} {wr : World}
  (h : ThInv U ts xs lo tb sb f who L S w bx rv l S2 b k nm L3 S3 wr) (hl : l.length <= 50) (hsb : sb <= w.heap.size) {y : Nod} (hy : l[k]? = some y) (ht : y.isTh = true) {L4 : TL} {S4 : TS} {w2 : World} (r : RStep U lo tb f who L3 S3 wr L4 S4 w2) (ky : Kn S4 (y.to b)) {p q : Nat} (hpq : cxN S4 (y.to b) = .complex .f64 p q) :
  ∃ v' w3, (Builtin.append_ #[170, 170] 170 #[nm, .slice (some ⟨w2.heap.size, 0, none⟩) 1 1]).run Tryz.prog (w2.alloc (.cells #[.complex .f64 p q] 136)) = .ok v' w3 /\ (∃ x c, v' = .slice x ((outK l b k).length + 1) c) /\ ThInv U ts xs lo tb sb f who L S w bx rv l S2 b (k + 1) v' L4 S4 w3 := by
 have hb : w.heap.size + 1 <= wr.heap.size := row_lt h.bxo
 have hws : wr.heap.size <= w2.heap.size := r.fr.size
 have own2 : w2.ownsRow (w.heap.size + 1) 136 1 nm (outK l b k).length ((outK l b k).map (cxN S4)) := by
  rw [map_cx_le r.le h.kn]
  refine owns_to h.nmo fun g hg => ?_
  obtain ⟨-, -, cur, q⟩ := owns_lt h.nmo g hg
  exact r.kind h.ta.t q (by decide) (by decide)
 have hln := outK_len l b k
 obtain ⟨v', w3, hr, o3, g3, n3⟩ := app_at Tryz.underlying170 Tryz.infoCx rfl (by decide) (by decide) w2 (w.heap.size + 1) nm (outK l b k).length ((outK l b k).map (cxN S4)) [.complex .f64 p q] rfl (by intro u hu; simp at hu; rw [hu]; rfl) own2 (by omega) (by omega)
 have ta2 := h.ta.rstep r
 have hfr : Frm (fun j => nm.ownBlock = some j) w2 w3 := Frm.of_grown g3 (fun j e => e)
 have hcx : ∀ j, j < w2.heap.size -> nm.ownBlock = some j -> w.heap.size + 1 <= j /\ ∃ cur, w2.heap[j]? = some (.cells cur 136 (0, 0)) := fun j _ e => ⟨(owns_lt own2 j e).2.1, (owns_lt own2 j e).2.2⟩
 have ta3 : TA U ts xs lo tb sb f who L4 S4 w3 := ta2.cxkeep hfr fun j hj e => ⟨by have := (hcx j hj e).1; omega, (hcx j hj e).2⟩
 have nb : ∀ g, g < w.heap.size + 1 -> nm.ownBlock ≠ some g := fun g hg e => by have := (owns_lt own2 g e).2.1; omega
 refine ⟨v', w3, hr, owns_form o3, ta3, (h.st.trans r).after ta3.t hfr (fun j hj e => nb j (by omega) e), ?_, ?_, ?_, h.le.trans r.le, ?_, ?_⟩
 ·rw [hfr.block _ (by omega) (nb _ (by omega)), r.kind h.ta.t h.bxo (by decide) (by decide)]
  exact h.bxo
 ·refine h.rvo.keep fun g n c e _ hg => ?_
  obtain ⟨hg1, cur, hg2⟩ := h.rb g n c e
  rw [hfr.block g (by omega) (nb g (by omega))]
  exact r.kind h.ta.t hg2 (by decide) (by decide)
 ·intro g n c e
  obtain ⟨hg1, cur, hg2⟩ := h.rb g n c e
  refine ⟨hg1, cur, ?_⟩
  rw [hfr.block g (by have := row_lt hg2; omega) (nb g (by omega)), r.kind h.ta.t hg2 (by decide) (by decide)]
  exact hg2
 ·rw [outK_yes hy ht, List.length_append, List.map_append, List.map_cons, List.map_nil, hpq]
  exact o3
 ·intro z hz
  rw [outK_yes hy ht] at hz
  rcases List.mem_append.1 hz with hz | hz
  ·exact (h.kn z hz).le r.le
  ·simp at hz; rw [hz]; exact ky
theorem ThInv.skip {U : List ByteArray} {ts : List (Nod × Nod)} {xs : List ByteArray} {lo tb sb : Nat} {f : Nod -> Option Value} {who : Nod -> Nat} {L : TL} {S : TS} {w : World} {bx : List Value} {rv : Value} {l : List Nod} {S2 : TS} {b : ByteArray} {k : Nat} {nm : Value} {L3 : TL} {S3 : TS} {wr : World}
  (h : ThInv U ts xs lo tb sb f who L S w bx rv l S2 b k nm L3 S3 wr) {y : Nod} (hy : l[k]? = some y) (ht : y.isTh = false) : ThInv U ts xs lo tb sb f who L S w bx rv l S2 b (k + 1) nm L3 S3 wr :=
 ⟨h.ta, h.st, h.bxo, h.rvo, h.rb, h.le, by rw [outK_no hy ht]; exact h.nmo, by rw [outK_no hy ht]; exact h.kn⟩
theorem through_any {U : List ByteArray} {ts : List (Nod × Nod)} {xs : List ByteArray} {lo tb sb : Nat} {f : Nod -> Option Value} {who : Nod -> Nat} {L : TL} {S : TS} {w : World} (h : TA U ts xs lo tb sb f who L S w) {x : Nod} (kx : Kn S x) {a b : ByteArray} (ha : a ∈ U) (hb : b ∈ U) (is : Int) (y : Option Addr) (n c : Nat) :
  Calls Tryz.prog 229 #[.pointer (some ⟨tb, 0, none⟩), cxN S x, .agg #[.int .i64 is, .string a, .string b, .slice y n c]] w fun e w' => ∃ L' S' rv, e = .returned rv /\ w'.ownsRow w.heap.size 136 1 rv (thrL ts x a b).length ((thrL ts x a b).map (cxN S')) /\ (∀ z ∈ thrL ts x a b, Kn S' z) /\ RStep U lo tb f who L S w L' S' w' := by
 obtain ⟨l, hl⟩ : ∃ l, subsOf ts (x.to a) = l := ⟨_, rfl⟩
 have hll : l.length <= 50 := by
  rw [← hl]
  have := h.tn
  unfold subsOf
  rw [List.length_map]
  exact Nat.le_trans (List.length_filter_le _ _) this
 have HT : Hid (thrL ts x a b = outK l b l.length) := by
  show _ = _
  unfold thrL outK
  rw [hl, List.take_of_length_le (Nat.le_refl _)]
 have c4 := row_cell h.t.blk (j := 4) rfl
 have c4a := fun o => row_cell (alloc_row h.t.blk o) (j := 4) rfl
 have hbl : tb < w.heap.size := row_lt h.t.blk
 have HB : Hid (∀ w1, Below w.heap.size w w1 -> Calls Tryz.prog 228 #[.pointer (some ⟨tb, 0, none⟩), cxN S x, .string a] w1 fun e w2 => ∃ L2 S2 o cc, e = .returned (cxN S2 (x.to a)) /\ w2.cell? ⟨tb, 4, none⟩ = some (.map (some L.ms)) /\ (Instr.lookup 179 (.map (some L.ms)) (cxN S2 (x.to a)) false).run Tryz.prog w2 = .ok (.slice o l.length cc) w2 /\ ((w1.heap[w.heap.size]? = some (.cells [Value.int .i64 is, .string a, .string b, .slice y n c].toArray 106 (0, 0))) -> ThInv U ts xs lo tb sb f who L S w [.int .i64 is, .string a, .string b, .slice y n c] (.slice o l.length cc) l S2 b 0 (.slice none 0 0) L2 S2 w2) /\ ∀ z ∈ l, Kn S2 z) := by
  intro w1 hb1
  have t1 := h.below hb1
  refine (beside_any t1.t (x := x) kx.1 ha (fb (ixOf S.rels x.r))).mono ?_
  rintro e w2 ⟨L2, S2, he, k2, r2⟩
  have t2 := t1.rstep r2
  obtain ⟨v, hlk, hrow, -, hblk⟩ := t2.subs k2
  rw [hl] at hrow
  obtain ⟨o, cc, rfl, hc⟩ := hrow
  rw [List.length_map] at hlk
  have hms : L2.ms = L.ms := by rw [r2.loc]
  rw [hms] at hlk
  refine ⟨L2, S2, o, cc, he, t2.t.cellN (by rw [r2.tie]) (j := 4) rfl, hlk, fun hbx => ⟨t2, (RStep.below h.t hb1).trans r2, ?_, ⟨o, cc, by rw [List.length_map], hc⟩, ?_, TS.le.refl _, ?_, fun z hz => by simp [outK] at hz⟩, fun z hz => t2.s.known (by rw [hl]; exact hz)⟩
  ·rw [r2.kind t1.t hbx (by decide) (by decide)]; exact hbx
  ·intro g n' c' e
   obtain ⟨q1, q2⟩ := hblk g n' c' (by rw [← e, List.length_map])
   exact ⟨Nat.lt_of_lt_of_le q1 h.sb, q2⟩
  ·have : outK l b 0 = [] := by simp [outK]
   rw [this]; exact World.ownsRow_nil _ _ _ _
 have HBX := alloc_new w [.int .i64 is, .string a, .string b, .slice y n c] 106
 have HX : Hid (x.th ∈ S.ths) := kx.1
 have HSB : Hid (sb <= w.heap.size) := h.sb
 rw [HT.out]
 generalize hcx : cxN S x = cx at *
 clear h hcx kx HT hl
 obtain ⟨nn, hnn⟩ : ∃ nn, l.length = nn := ⟨_, rfl⟩
 have HNN : Hid (l.length = nn) := hnn
 rw [hnn] at hll HB ⊢
 clear hnn
 go_enter Tryz.func229, Tryz.ntmps229
 go_wp2
 go_cut [19, 20, 21] from 10 to 21 (fun rv ln i wx => ∃ (o : Option Addr) (cc : Nat) (L2 : TL) (S2 : TS), rv = .slice o nn cc /\ ln = .int .i64 nn /\ i = .int .i64 0 /\ ThInv U ts xs lo tb sb f who L S w [.int .i64 is, .string a, .string b, .slice y n c] (.slice o nn cc) l S2 b 0 (.slice none 0 0) L2 S2 wx /\ ∀ z ∈ l, Kn S2 z)
 case first =>
  go_region_with (go_at_call 228; refine (HB.out _ (by repeat (first | exact Below.refl _ _ | refine Below.setCell ?_ (by first | exact Nat.le_refl _ | (simp; done) | (simp; omega)) _ | refine below_drewN ?_ _ | refine Below.drew ?_ | refine Below.alloc ?_ (by first | exact Nat.le_refl _ | (simp; done) | (simp; omega)) _))).mono ?_; rintro e w2 ⟨L2, S2, o, cc, rfl, d4, hlk, hI0, hkn⟩; have HI1 : Hid (ThInv U ts xs lo tb sb f who L S w [.int .i64 is, .string a, .string b, .slice y n c] (.slice o nn cc) l S2 b 0 (.slice none 0 0) L2 S2 w2) := hI0 (by first | exact HBX | (show (World.drewN _ _).heap[w.heap.size]? = _; exact HBX) | (show (World.drew _).heap[w.heap.size]? = _; exact HBX)); have HKN : Hid (∀ z ∈ l, Kn S2 z) := hkn; clear hI0 hkn; generalize cxN S2 (x.to a) = cz at *)
  all_goals (go_wp2_with fail; go_meet)
  all_goals exact ⟨o, cc, L2, S2, rfl, rfl, rfl, HI1.out, HKN.out⟩
 case rest =>
  obtain ⟨o, cc, L2, S2, rfl, rfl, rfl, hI, hkn⟩ := hcut
  have HI0 : Hid (ThInv U ts xs lo tb sb f who L S w [.int .i64 is, .string a, .string b, .slice y n c] (.slice o nn cc) l S2 b 0 (.slice none 0 0) L2 S2 wc) := hI
  have HKN : Hid (∀ z ∈ l, Kn S2 z) := hkn
  have HI2 : Hid (TS.Ok U S2) := hI.ta.t.ok
  clear hI hkn HB c4 c4a HBX
  go_wp2
  go_loopw [7, 21] (fun nm i wr => ∃ (k : Nat) (nm' : Value) (L3 : TL) (S3 : TS), nm' = nm /\ k <= nn /\ i = .int .i64 k /\ ThInv U ts xs lo tb sb f who L S w [.int .i64 is, .string a, .string b, .slice y n c] (.slice o nn cc) l S2 b k nm' L3 S3 wr) (fun _ i _ => nn - (intOf i).toNat)
  case atStart => exact ⟨0, _, L2, S2, rfl, Nat.zero_le _, rfl, HI0.out⟩
  case round =>
   obtain ⟨k, nm, L3, S3, rfl, hk, rfl, hI⟩ := hrel
   have HI : Hid (ThInv U ts xs lo tb sb f who L S w [.int .i64 is, .string a, .string b, .slice y n c] (.slice o nn cc) l S2 b k nm L3 S3 wr) := hI
   have b2 := row_cell hI.bxo (j := 2) rfl
   clear hI HI0
   by_cases hlt : k < nn
   ·have hkl : k < l.length := by have := HNN.out; omega
    obtain ⟨z, hz⟩ : ∃ z, l[k]? = some z := ⟨_, List.getElem?_eq_getElem hkl⟩
    obtain ⟨o', c', he, hc⟩ := HI.out.rvo
    obtain ⟨g, hog, hcell⟩ := hc k (cxN S2 z) (by rw [List.getElem?_map, hz]; rfl)
    have hoo : o = some ⟨g, 0, none⟩ := by injection he with he; rw [he]; exact hog
    subst hoo
    have kz : Kn S2 z := HKN.out z (List.mem_of_getElem? hz)
    have HZ : Hid (l[k]? = some z) := hz
    have hth := fun w1 => cxThing_any (S := S2) (U := U) HI2.out kz w1
    have HBS : Hid (∀ w1, Below wr.heap.size wr w1 -> Calls Tryz.prog 228 #[.pointer (some ⟨tb, 0, none⟩), cxN S2 z, .string b] w1 fun e w2 => ∃ L4 S4 p q, e = .returned (.complex .f64 p q) /\ cxN S4 (z.to b) = .complex .f64 p q /\ Kn S4 (z.to b) /\ RStep U lo tb f who L3 S3 wr L4 S4 w2) := by
     intro w1 hb1
     have kz3 := kz.le HI.out.le
     have := beside_any (HI.out.ta.below hb1).t (x := z) kz3.1 hb (fb (ixOf S3.rels z.r))
     rw [← cxN_le HI.out.le kz]
     refine this.mono ?_
     rintro e w2 ⟨L4, S4, he, k4, r4⟩
     exact ⟨L4, S4, _, _, he, rfl, k4, (RStep.below HI.out.ta.t hb1).trans r4⟩
    clear he hc hog hz hkl kz
    cases hzt : z.isTh
    ·rw [hzt] at hth
     have HSK := HI.out.skip HZ.out hzt
     clear HBS hzt
     generalize cxN S2 z = cz at *
     go_wp2_with (go_at_call 181; refine (hth _).mono ?_; rintro e w1 ⟨rfl, hw1⟩; subst w1)
     go_roundw
     case rel => exact ⟨k + 1, nm, L3, S3, rfl, by omega, by go_num, HSK⟩
     case measure => simp [intOf]; omega
    ·rw [hzt] at hth
     have HNX : Hid (∀ (L4 : TL) (S4 : TS) (w2 : World) (p q : Nat), RStep U lo tb f who L3 S3 wr L4 S4 w2 -> Kn S4 (z.to b) -> cxN S4 (z.to b) = .complex .f64 p q -> ∃ v' w3, (Builtin.append_ #[170, 170] 170 #[nm, .slice (some ⟨w2.heap.size, 0, none⟩) 1 1]).run Tryz.prog (w2.alloc (.cells #[.complex .f64 p q] 136)) = .ok v' w3 /\ (∃ x c, v' = .slice x ((outK l b k).length + 1) c) /\ ThInv U ts xs lo tb sb f who L S w [.int .i64 is, .string a, .string b, .slice y n c] (.slice (some ⟨g, 0, none⟩) nn cc) l S2 b (k + 1) v' L4 S4 w3) := by
      intro L4 S4 w2 p q r kk hpq
      exact HI.out.next (by have := HNN.out; omega) HSB.out HZ.out hzt r kk hpq
     obtain ⟨nx, nc, hnm⟩ := owns_form HI.out.nmo
     generalize (outK l b k).length = m at *
     subst hnm
     clear hzt
     generalize cxN S2 z = cz at *
     go_wp2_with (first | (go_at_call 181; refine (hth _).mono ?_; rintro e w1 ⟨rfl, hw1⟩; subst w1) | (go_at_call 228; refine (HBS.out _ (Below.refl _ _)).mono ?_; rintro e w2 ⟨L4, S4, p, q, rfl, hpq, kk4, r4⟩; obtain ⟨v', w3, hap, ⟨vx, vc, rfl⟩, hI3⟩ := HNX.out L4 S4 w2 p q r4 kk4 hpq; have HI3 : Hid (ThInv U ts xs lo tb sb f who L S w [.int .i64 is, .string a, .string b, .slice y n c] (.slice (some ⟨g, 0, none⟩) nn cc) l S2 b (k + 1) (.slice vx (m + 1) vc) L4 S4 w3) := hI3; clear hI3 r4 kk4 hpq) | (at_builtin; refine wpList_app_run rfl (.tmp 27) (.tmp 33) 170 rfl _ _ _ rfl rfl hap ?_))
     go_roundw
     case rel => exact ⟨k + 1, _, L4, S4, rfl, by omega, by go_num, HI3.out⟩
     case measure => simp [intOf]; omega
   ·obtain rfl : k = nn := by omega
    go_wp2
    go_ret
    have := HI.out
    refine ⟨L3, S3, nm, rfl, ?_, ?_, this.st⟩
    ·exact owns_base this.nmo (Nat.le_succ _)
    ·exact this.kn
def NamedP (U : List ByteArray) (lo tb : Nat) (f : Nod -> Option Value) (who : Nod -> Nat) (L : TL) (S : TS) (w : World) (l : List Nod) (e : Ending) (w' : World) : Prop :=
 ∃ L' S' o c, e = .returned (.slice o l.length c) /\ CxRow w' (.slice o l.length c) (l.map (cxN S')) /\ (l = [] -> o = none /\ c = 0 \/ ∃ g, o = some ⟨g, 0, none⟩) /\ (∀ y ∈ l, Kn S' y) /\ RStep U lo tb f who L S w L' S' w'
def NamedC (U : List ByteArray) (ts : List (Nod × Nod)) (xs : List ByteArray) (lo tb sb : Nat) (f : Nod -> Option Value) (who : Nod -> Nat) (t : WayT) : Prop :=
 ∀ (L : TL) (S : TS) (w : World) (x : Nod) (v : Value), TA U ts xs lo tb sb f who L S w -> WayAt w (fun _ => True) t v -> (∀ r ∈ relsW t, r ∈ U) -> lvW t <= 201 -> Kn S x ->
  Calls Tryz.prog 215 #[.pointer (some ⟨tb, 0, none⟩), cxN S x, v] w (NamedP U lo tb f who L S w (namedW ts x t))
theorem named_this {U : List ByteArray} {ts : List (Nod × Nod)} {xs : List ByteArray} {lo tb sb : Nat} {f : Nod -> Option Value} {who : Nod -> Nat} {L : TL} {S : TS} {w : World} (h : TA U ts xs lo tb sb f who L S w) {x : Nod} (kx : Kn S x) (a b : ByteArray) (y : Option Addr) (n c : Nat) :
  Calls Tryz.prog 215 #[.pointer (some ⟨tb, 0, none⟩), cxN S x, .agg #[.int .i64 0, .string a, .string b, .slice y n c]] w (NamedP U lo tb f who L S w (subsOf ts x)) := by
 have c4a := fun o => row_cell (alloc_row h.t.blk o) (j := 4) rfl
 have hbl : tb < w.heap.size := row_lt h.t.blk
 obtain ⟨v, hlk, hrow, hnil, hblk⟩ := (h.below (w' := w.alloc (.cells #[.int .i64 0, .string a, .string b, .slice y n c] 106)) (by repeat (first | exact Below.refl _ _ | refine Below.setCell ?_ (by first | exact Nat.le_refl _ | (simp; done) | (simp; omega)) _ | refine below_drewN ?_ _ | refine Below.drew ?_ | refine Below.alloc ?_ (by first | exact Nat.le_refl _ | (simp; done) | (simp; omega)) _))).subs kx
 obtain ⟨o, cc, rfl, hc⟩ := hrow
 rw [List.length_map] at hlk hnil
 have HP : Hid (NamedP U lo tb f who L S w (subsOf ts x) (.returned (.slice o (subsOf ts x).length cc)) (w.alloc (.cells #[.int .i64 0, .string a, .string b, .slice y n c] 106))) := by
  refine ⟨L, S, o, cc, rfl, ⟨o, cc, by rw [List.length_map], hc⟩, fun e => ?_, fun z hz => h.s.known hz, RStep.below h.t (by repeat (first | exact Below.refl _ _ | refine Below.setCell ?_ (by first | exact Nat.le_refl _ | (simp; done) | (simp; omega)) _ | refine below_drewN ?_ _ | refine Below.drew ?_ | refine Below.alloc ?_ (by first | exact Nat.le_refl _ | (simp; done) | (simp; omega)) _))⟩
  rcases hnil e with e1 | ⟨g, c', e1⟩
  ·injection e1 with e1 _ e2; exact Or.inl ⟨e1, e2⟩
  ·injection e1 with e1; exact Or.inr ⟨g, e1⟩
 generalize NamedP U lo tb f who L S w (subsOf ts x) = post at *
 generalize (subsOf ts x).length = m at *
 generalize cxN S x = cx at *
 clear h hnil hblk hc kx
 go_enter Tryz.func215, Tryz.ntmps215
 go_wp2
 exact HP.out
theorem named_same {U : List ByteArray} {ts : List (Nod × Nod)} {xs : List ByteArray} {lo tb sb : Nat} {f : Nod -> Option Value} {who : Nod -> Nat} {L : TL} {S : TS} {w : World} (h : TA U ts xs lo tb sb f who L S w) {x : Nod} (kx : Kn S x) (a b : ByteArray) (hb : b ∈ U) (y : Option Addr) (n c : Nat) :
  Calls Tryz.prog 215 #[.pointer (some ⟨tb, 0, none⟩), cxN S x, .agg #[.int .i64 1, .string a, .string b, .slice y n c]] w (NamedP U lo tb f who L S w [x.to b]) := by
 have HBS : Hid (∀ w1, Below w.heap.size w w1 -> Calls Tryz.prog 228 #[.pointer (some ⟨tb, 0, none⟩), cxN S x, .string b] w1 fun e w2 => ∃ p q, e = .returned (.complex .f64 p q) /\ NamedP U lo tb f who L S w [x.to b] (.returned (.slice (some ⟨w2.heap.size, 0, none⟩) 1 1)) (w2.alloc (.cells #[.complex .f64 p q] 136))) := by
  intro w1 hb1
  refine (beside_any (h.below hb1).t (x := x) kx.1 hb (fb (ixOf S.rels x.r))).mono ?_
  rintro e w2 ⟨L4, S4, he, k4, r4⟩
  refine ⟨_, _, he, L4, S4, _, 1, rfl, ⟨_, 1, rfl, fun j u hj => ⟨_, rfl, ?_⟩⟩, (fun e => by cases e), (fun z hz => by simp at hz; rw [hz]; exact k4), ?_⟩
  ·have hn := alloc_new w2 [cxN S4 (x.to b)] 136
   exact row_cell hn (by simpa using hj)
  ·exact ((RStep.below h.t hb1).trans r4).trans (RStep.below r4.at' (by repeat (first | exact Below.refl _ _ | refine Below.setCell ?_ (by first | exact Nat.le_refl _ | (simp; done) | (simp; omega)) _ | refine below_drewN ?_ _ | refine Below.drew ?_ | refine Below.alloc ?_ (by first | exact Nat.le_refl _ | (simp; done) | (simp; omega)) _)))
 generalize NamedP U lo tb f who L S w [x.to b] = post at *
 generalize cxN S x = cx at *
 clear h kx
 go_enter Tryz.func215, Tryz.ntmps215
 go_wp2_with (go_at_call 228; refine (HBS.out _ (by repeat (first | exact Below.refl _ _ | refine Below.setCell ?_ (by first | exact Nat.le_refl _ | (simp; done) | (simp; omega)) _ | refine below_drewN ?_ _ | refine Below.drew ?_ | refine Below.alloc ?_ (by first | exact Nat.le_refl _ | (simp; done) | (simp; omega)) _))).mono ?_; rintro e w2 ⟨p, q, rfl, hp⟩)
 exact hp
theorem named_through {U : List ByteArray} {ts : List (Nod × Nod)} {xs : List ByteArray} {lo tb sb : Nat} {f : Nod -> Option Value} {who : Nod -> Nat} {L : TL} {S : TS} {w : World} (h : TA U ts xs lo tb sb f who L S w) {x : Nod} (kx : Kn S x) (a b : ByteArray) (ha : a ∈ U) (hb : b ∈ U) (y : Option Addr) (n c : Nat) :
  Calls Tryz.prog 215 #[.pointer (some ⟨tb, 0, none⟩), cxN S x, .agg #[.int .i64 2, .string a, .string b, .slice y n c]] w (NamedP U lo tb f who L S w (thrL ts x a b)) := by
 have HBS : Hid (∀ w1, Below w.heap.size w w1 -> Calls Tryz.prog 229 #[.pointer (some ⟨tb, 0, none⟩), cxN S x, .agg #[.int .i64 2, .string a, .string b, .slice y n c]] w1 fun e w2 => ∃ o m cc, e = .returned (.slice o m cc) /\ NamedP U lo tb f who L S w (thrL ts x a b) (.returned (.slice o m cc)) w2) := by
  intro w1 hb1
  refine (through_any (h.below hb1) kx ha hb 2 y n c).mono ?_
  rintro e w2 ⟨L', S', rv, he, ho, hk, r⟩
  obtain ⟨o, cc, rfl⟩ := owns_form ho
  refine ⟨o, _, cc, he, L', S', o, cc, rfl, owns_cxrow (by rw [List.length_map]; exact ho), fun e => ?_, hk, (RStep.below h.t hb1).trans r⟩
  rcases ho.2 with ⟨e1, -⟩ | ⟨g, cap, cur, e1, -⟩
  ·injection e1 with e1 _ e2; exact Or.inl ⟨e1, e2⟩
  ·injection e1 with e1; exact Or.inr ⟨g, e1⟩
 generalize NamedP U lo tb f who L S w (thrL ts x a b) = post at *
 generalize cxN S x = cx at *
 clear h kx
 go_enter Tryz.func215, Tryz.ntmps215
 go_wp2_with (go_at_call 229; refine (HBS.out _ (by repeat (first | exact Below.refl _ _ | refine Below.setCell ?_ (by first | exact Nat.le_refl _ | (simp; done) | (simp; omega)) _ | refine below_drewN ?_ _ | refine Below.drew ?_ | refine Below.alloc ?_ (by first | exact Nat.le_refl _ | (simp; done) | (simp; omega)) _))).mono ?_; rintro e w2 ⟨o, m, cc, rfl, hp⟩)
 exact hp
theorem namedL_take {ts : List (Nod × Nod)} {x : Nod} : ∀ (l : List WayT) (k : Nat) (t : WayT), l[k]? = some t -> namedL ts x (l.take (k + 1)) = namedL ts x (l.take k) ++ namedW ts x t := by
 intro l
 induction l with
 | nil => intro k t h; simp at h
 | cons a l ih =>
  intro k t h
  cases k with
  | zero => simp at h; subst h; simp [namedL]
  | succ k =>
   rw [List.take_succ_cons, List.take_succ_cons, namedL, namedL, ih k t (by simpa using h), List.append_assoc]
theorem lvL_mem {l : List WayT} {t : WayT} (h : t ∈ l) : lvW t <= lvL l := by
 induction l with
 | nil => cases h
 | cons a l ih =>
  rw [lvL]
  rcases List.mem_cons.1 h with rfl | h
  ·omega
  ·have := ih h; omega
theorem lvL_take (l : List WayT) (k : Nat) : lvL (l.take k) <= lvL l := by
 induction l generalizing k with
 | nil => simp
 | cons a l ih =>
  cases k with
  | zero => simp [lvL]
  | succ k => rw [List.take_succ_cons, lvL, lvL]; have := ih k; omega
theorem relsL_mem {l : List WayT} {t : WayT} (h : t ∈ l) {r : ByteArray} (hr : r ∈ relsW t) : r ∈ relsL l := by
 induction l with
 | nil => cases h
 | cons a l ih =>
  rw [relsL]
  rcases List.mem_cons.1 h with rfl | h
  ·exact List.mem_append_left _ hr
  ·exact List.mem_append_right _ (ih h)
theorem WayAt.parts {w : World} {In : Nat -> Prop} {is : Int} {a b : ByteArray} {ts : List WayT} {v : Value} (h : WayAt w In (.mk is a b ts) v) :
  ∃ o c, v = .agg #[.int .i64 is, .string a, .string b, .slice o ts.length c] /\ ∀ (k : Nat) (t : WayT), ts[k]? = some t -> ∃ g pi pa pb po pn pc, o = some ⟨g, 0, none⟩ /\ WayAt w In t (.agg #[.int .i64 pi, .string pa, .string pb, .slice po pn pc]) /\
   w.cell? ⟨g, k * 4, none⟩ = some (.int .i64 pi) /\ w.cell? ⟨g, k * 4 + 1, none⟩ = some (.string pa) /\ w.cell? ⟨g, k * 4 + 2, none⟩ = some (.string pb) /\ w.cell? ⟨g, k * 4 + 3, none⟩ = some (.slice po pn pc) /\ ts.length <= 1000 := by
 cases h with
 | leaf _ _ _ => exact ⟨none, 0, rfl, fun k t h => by simp at h⟩
 | node _ _ vs g cap cur h1 h2 h3 h4 h5 h6 =>
  refine ⟨_, cap, rfl, fun k t hk => ?_⟩
  have hkl := (List.getElem?_eq_some_iff.1 hk).1
  obtain ⟨v, hv⟩ : ∃ v, vs[k]? = some v := ⟨_, List.getElem?_eq_getElem (by omega)⟩
  have hw := h6 k t v hk hv
  obtain ⟨pi, pa, pb, po, pn, pc, rfl⟩ := hw.agg
  have key : ∀ (l : List Value) (k : Nat), (∀ u ∈ l, (fl u).length = 4) -> l[k]? = some (.agg #[.int .i64 pi, .string pa, .string pb, .slice po pn pc]) -> ∀ j u, [Value.int .i64 pi, .string pa, .string pb, .slice po pn pc][j]? = some u -> (l.flatMap fl)[k * 4 + j]? = some u := by
   intro l
   induction l with
   | nil => intro k _ h; simp at h
   | cons z l ih =>
    intro k hl h j u hj
    rw [List.flatMap_cons]
    cases k with
    | zero =>
     simp at h; subst h
     have hj4 := (List.getElem?_eq_some_iff.1 hj).1
     rw [List.getElem?_append_left (by simp [fl] at hj4 ⊢; omega), Nat.zero_mul, Nat.zero_add]
     exact hj
    | succ k =>
     have hz := hl z (by simp)
     rw [List.getElem?_append_right (by omega), hz, show (k + 1) * 4 + j - 4 = k * 4 + j by omega]
     exact ih k (fun u hu => hl u (by simp [hu])) (by simpa using h) j u hj
  have hall : ∀ u ∈ vs, (fl u).length = 4 := by
   intro u hu
   obtain ⟨i, hi⟩ := List.mem_iff_getElem?.1 hu
   have hil := (List.getElem?_eq_some_iff.1 hi).1
   obtain ⟨t', ht'⟩ : ∃ t', ts[i]? = some t' := ⟨_, List.getElem?_eq_getElem (by omega)⟩
   obtain ⟨_, _, _, _, _, _, rfl⟩ := (h6 i t' u ht' hi).agg
   rfl
  have hcell : ∀ j u, [Value.int .i64 pi, .string pa, .string pb, .slice po pn pc][j]? = some u -> w.cell? ⟨g, k * 4 + j, none⟩ = some u := by
   intro j u hj
   have h7 := key vs k hall hv j u hj
   rw [← h5] at h7
   have hlt : k * 4 + j < ts.length * 4 := by
    have := (List.getElem?_eq_some_iff.1 h7).1
    rw [List.length_take] at this; omega
   rw [List.getElem?_take_of_lt hlt] at h7
   exact row_cell (cs := cur.toList) (t := 106) (fz := (0, 0)) (by simpa using h2) h7
  exact ⟨g, pi, pa, pb, po, pn, pc, rfl, hw, hcell 0 _ rfl, hcell 1 _ rfl, hcell 2 _ rfl, hcell 3 _ rfl, h4⟩
structure NmInv (U : List ByteArray) (ts : List (Nod × Nod)) (xs : List ByteArray) (lo tb sb : Nat) (f : Nod -> Option Value) (who : Nod -> Nat) (L : TL) (S : TS) (w : World) (wt : WayT) (wv : Value) (x : Nod) (l : List WayT) (k : Nat) (nm : Value) (L3 : TL) (S3 : TS) (wr : World) : Prop where
 ta : TA U ts xs lo tb sb f who L3 S3 wr
 st : RStep U lo tb f who L S w L3 S3 wr
 wy : WayAt wr (fun _ => True) wt wv
 nmo : wr.ownsRow w.heap.size 136 1 nm (namedL ts x (l.take k)).length ((namedL ts x (l.take k)).map (cxN S3))
 kn : ∀ y ∈ namedL ts x (l.take k), Kn S3 y
theorem NmInv.next {U : List ByteArray} {ts : List (Nod × Nod)} {xs : List ByteArray} {lo tb sb : Nat} {f : Nod -> Option Value} {who : Nod -> Nat} {L : TL} {S : TS} {w : World} {wt : WayT} {wv : Value} {x : Nod} {l : List WayT} {k : Nat} {nm : Value} {L3 : TL} {S3 : TS} {wr : World}
  (h : NmInv U ts xs lo tb sb f who L S w wt wv x l k nm L3 S3 wr) (hlv : lvL l <= 201) (hsb : sb <= w.heap.size) {t : WayT} (ht : l[k]? = some t) {w1 : World} (hb1 : Below wr.heap.size wr w1) {e : Ending} {w2 : World} (hp : NamedP U lo tb f who L3 S3 w1 (namedW ts x t) e w2) :
  ∃ o c, e = .returned (.slice o (namedW ts x t).length c) /\ ∃ v' w3, (Builtin.append_ #[170, 170] 170 #[nm, .slice o (namedW ts x t).length c]).run Tryz.prog w2 = .ok v' w3 /\ (∃ a m b, v' = .slice a m b) /\ ∃ L4 S4, NmInv U ts xs lo tb sb f who L S w wt wv x l (k + 1) v' L4 S4 w3 := by
 obtain ⟨L4, S4, o, c, he, hrow, hnil, hkn, r4⟩ := hp
 have r := (RStep.below h.ta.t hb1).trans r4
 have hws : wr.heap.size <= w2.heap.size := r.fr.size
 have hw0 : w.heap.size <= wr.heap.size := h.st.fr.size
 have own2 : w2.ownsRow w.heap.size 136 1 nm (namedL ts x (l.take k)).length ((namedL ts x (l.take k)).map (cxN S4)) := by
  rw [map_cx_le r.le h.kn]
  refine owns_to h.nmo fun g hg => ?_
  obtain ⟨-, -, cur, q⟩ := owns_lt h.nmo g hg
  exact r.kind h.ta.t q (by decide) (by decide)
 have hlen : (namedL ts x (l.take k)).length <= 10251 := by
  have h1 := namedL_len ts x (l.take k)
  have h2 := lvL_take l k
  have h3 := h.ta.tn
  have : lvL (l.take k) * (ts.length + 1) <= 201 * 51 := Nat.mul_le_mul (by omega) (by omega)
  omega
 have hlen2 : (namedW ts x t).length <= 10251 := by
  have h1 := namedW_len ts x t
  have h2 := lvL_mem (List.mem_of_getElem? ht)
  have h3 := h.ta.tn
  have : lvW t * (ts.length + 1) <= 201 * 51 := Nat.mul_le_mul (by omega) (by omega)
  omega
 have own2' : w2.ownsRow w.heap.size 136 1 nm ((namedL ts x (l.take k)).map (cxN S4)).length ((namedL ts x (l.take k)).map (cxN S4)) := by rw [List.length_map]; exact own2
 obtain ⟨v', w3, hr, o3, g3, n3⟩ := app_cx w2 w.heap.size nm (.slice o (namedW ts x t).length c) ((namedL ts x (l.take k)).map (cxN S4)) ((namedW ts x t).map (cxN S4)) own2' hrow (cxN_one _ _) (by omega) (by rw [List.length_map, List.length_map]; omega) (fun e => by
  have e2 : namedW ts x t = [] := by simpa using e
  rcases hnil e2 with ⟨h1, h2⟩ | ⟨g, h1⟩
  ·left; rw [e2, h1, h2]; rfl
  ·right; exact ⟨g, c, by rw [e2, h1]; rfl⟩)
 have ta2 := h.ta.rstep r
 have hfr : Frm (fun j => nm.ownBlock = some j) w2 w3 := Frm.of_grown g3 (fun j e => e)
 have hcx : ∀ j, j < w2.heap.size -> nm.ownBlock = some j -> w.heap.size <= j /\ ∃ cur, w2.heap[j]? = some (.cells cur 136 (0, 0)) := fun j _ e => ⟨(owns_lt own2 j e).2.1, (owns_lt own2 j e).2.2⟩
 have ta3 : TA U ts xs lo tb sb f who L4 S4 w3 := ta2.cxkeep hfr fun j hj e => ⟨by have := (hcx j hj e).1; omega, (hcx j hj e).2⟩
 refine ⟨o, c, he, v', w3, hr, ?_, L4, S4, ta3, (h.st.trans r).after ta3.t hfr (fun j hj e => by have := (owns_lt own2 j e).2.1; omega), ?_, ?_, ?_⟩
 ·obtain ⟨a, b, e⟩ := owns_form o3; exact ⟨a, _, b, e⟩
 ·refine (h.wy.rstep h.ta.t r).move2 fun g cur hg hc => ⟨hg, hfr.block g (row_lt hc) fun e => ?_⟩
  obtain ⟨-, cur', hq⟩ := hcx g (row_lt hc) e
  rw [hc] at hq; injection hq with hq; injection hq with _ hq; revert hq; decide
 ·rw [namedL_take l k t ht, List.length_append, List.map_append]
  rw [List.length_append, List.length_map, List.length_map] at o3
  exact o3
 ·intro z hz
  rw [namedL_take l k t ht] at hz
  rcases List.mem_append.1 hz with hz | hz
  ·exact (h.kn z hz).le r.le
  ·exact hkn z hz
theorem named_parts {U : List ByteArray} {ts : List (Nod × Nod)} {xs : List ByteArray} {lo tb sb : Nat} {f : Nod -> Option Value} {who : Nod -> Nat} {is : Int} {a b : ByteArray} {l : List WayT} (his : isLeaf is = false) (HC : Hid (∀ t ∈ l, NamedC U ts xs lo tb sb f who t)) : NamedC U ts xs lo tb sb f who (.mk is a b l) := by
 intro L S w x v h hv hrel hlv kx
 rw [relsW, if_neg (by rw [his]; decide)] at hrel
 rw [lvW, if_neg (by rw [his]; decide)] at hlv
 rw [namedW, if_neg (by rw [his]; decide)]
 have h0 : (is == 0) = false := by unfold isLeaf at his; simp at his ⊢; omega
 have h1 : (is == 1) = false := by unfold isLeaf at his; simp at his ⊢; omega
 have h2 : (is == 2) = false := by unfold isLeaf at his; simp at his ⊢; omega
 obtain ⟨o, c, rfl, -⟩ := hv.parts
 have HST : Hid (∀ w1, Below w.heap.size w w1 -> NmInv U ts xs lo tb sb f who L S w (.mk is a b l) (.agg #[.int .i64 is, .string a, .string b, .slice o l.length c]) x l 0 (.slice none 0 0) L S w1) := by
  intro w1 hb1
  refine ⟨h.below hb1, RStep.below h.t hb1, hv.move2 fun g _ hg hc => ⟨hg, hb1.block g (row_lt hc)⟩, ?_, fun y hy => by simp [namedL] at hy⟩
  have : namedL ts x (l.take 0) = [] := by simp [namedL]
  rw [this]; exact World.ownsRow_nil _ _ _ _
 have HSB : Hid (sb <= w.heap.size) := h.sb
 have HKX : Hid (Kn S x) := kx
 have HR : Hid (∀ r ∈ relsL l, r ∈ U) := hrel
 have HLV : Hid (lvL l <= 201) := hlv
 have hlb : l.length <= 1000 := by
  rcases Nat.eq_zero_or_pos l.length with e | e
  ·omega
  ·obtain ⟨o', c', e1, hp⟩ := hv.parts
   obtain ⟨g, pi, pa, pb, po, pn, pc, -, -, -, -, -, -, hle⟩ := hp 0 l[0] (List.getElem?_eq_getElem e)
   exact hle
 obtain ⟨cx, hcx⟩ : ∃ cx, cxN S x = cx := ⟨_, rfl⟩
 have HCX : Hid (cxN S x = cx) := hcx
 rw [hcx]
 obtain ⟨nn, hnn⟩ : ∃ nn, l.length = nn := ⟨_, rfl⟩
 have HNN : Hid (l.length = nn) := hnn
 rw [hnn] at HST hlb ⊢
 clear h hv hrel hlv kx hcx hnn his
 go_enter Tryz.func215, Tryz.ntmps215
 go_wp2
 go_loopw [7, 37] (fun nm i wr => ∃ (k : Nat) (nm' : Value) (L3 : TL) (S3 : TS), nm' = nm /\ k <= nn /\ i = .int .i64 k /\ NmInv U ts xs lo tb sb f who L S w (.mk is a b l) (.agg #[.int .i64 is, .string a, .string b, .slice o nn c]) x l k nm' L3 S3 wr) (fun _ i _ => nn - (intOf i).toNat)
 case atStart => exact ⟨0, _, L, S, rfl, Nat.zero_le _, rfl, HST.out _ (by repeat (first | exact Below.refl _ _ | refine Below.setCell ?_ (by first | exact Nat.le_refl _ | (simp; done) | (simp; omega)) _ | refine below_drewN ?_ _ | refine Below.drew ?_ | refine Below.alloc ?_ (by first | exact Nat.le_refl _ | (simp; done) | (simp; omega)) _))⟩
 case round =>
  obtain ⟨k, nm, L3, S3, rfl, hk, rfl, hI⟩ := hrel
  have HI : Hid (NmInv U ts xs lo tb sb f who L S w (.mk is a b l) (.agg #[.int .i64 is, .string a, .string b, .slice o nn c]) x l k nm L3 S3 wr) := hI
  clear hI HST
  by_cases hlt : k < nn
  ·have hkl : k < l.length := by have := HNN.out; omega
   obtain ⟨t, ht⟩ : ∃ t, l[k]? = some t := ⟨_, List.getElem?_eq_getElem hkl⟩
   obtain ⟨o', c', he, hp⟩ := HI.out.wy.parts
   obtain ⟨g, pi, pa, pb, po, pn, pc, hog, hwt, p0, p1, p2, p3, -⟩ := hp k t ht
   have hoo : o = some ⟨g, 0, none⟩ := by
    simp only [Value.agg.injEq, Array.mk.injEq, List.cons.injEq, Value.slice.injEq] at he
    rw [he.2.2.2.1.1]; exact hog
   subst hoo
   have hm := List.mem_of_getElem? ht
   have HNM : Hid (∀ w1, Below wr.heap.size wr w1 -> Calls Tryz.prog 215 #[.pointer (some ⟨tb, 0, none⟩), cx, .agg #[.int .i64 pi, .string pa, .string pb, .slice po pn pc]] w1 fun e w2 => ∃ o c, e = .returned (.slice o (namedW ts x t).length c) /\ ∃ v' w3, (Builtin.append_ #[170, 170] 170 #[nm, .slice o (namedW ts x t).length c]).run Tryz.prog w2 = .ok v' w3 /\ (∃ a m b, v' = .slice a m b) /\ ∃ L4 S4, NmInv U ts xs lo tb sb f who L S w (.mk is a b l) (.agg #[.int .i64 is, .string a, .string b, .slice (some ⟨g, 0, none⟩) nn c']) x l (k + 1) v' L4 S4 w3) := by
    intro w1 hb1
    have kx3 := HKX.out.le HI.out.st.le
    have := HC.out t hm L3 S3 w1 x _ (HI.out.ta.below hb1) (hwt.move2 fun g _ hg hc => ⟨hg, hb1.block g (row_lt hc)⟩) (fun r hr => HR.out r (relsL_mem hm hr)) (by have := lvL_mem hm; have := HLV.out; omega) kx3
    rw [cxN_le HI.out.st.le HKX.out, HCX.out] at this
    refine this.mono ?_
    intro e w2 hp2
    have hI' := HI.out
    have ec : c = c' := by
     simp only [Value.agg.injEq, Array.mk.injEq, List.cons.injEq, Value.slice.injEq] at he
     exact he.2.2.2.1.2.2
    rw [ec] at hI'
    exact hI'.next HLV.out HSB.out ht hb1 hp2
   have ec : c = c' := by
    simp only [Value.agg.injEq, Array.mk.injEq, List.cons.injEq, Value.slice.injEq] at he
    exact he.2.2.2.1.2.2
   rw [← ec] at HNM
   obtain ⟨nx, nc, hnm⟩ := owns_form HI.out.nmo
   generalize (namedL ts x (l.take k)).length = mm at *
   subst hnm
   generalize (namedW ts x t).length = m at *
   clear he hp hog hwt hm ec ht hkl
   go_wp2_with (first | (go_at_call 215; refine (HNM.out _ (by repeat (first | exact Below.refl _ _ | refine Below.setCell ?_ (by first | exact Nat.le_refl _ | (simp; done) | (simp; omega)) _ | refine below_drewN ?_ _ | refine Below.drew ?_ | refine Below.alloc ?_ (by first | exact Nat.le_refl _ | (simp; done) | (simp; omega)) _))).mono ?_; rintro e w2 ⟨o2, c2, rfl, v', w3, hap, ⟨va, vm, vb, rfl⟩, L4, S4, hI3⟩; have HI3 : Hid (NmInv U ts xs lo tb sb f who L S w (.mk is a b l) (.agg #[.int .i64 is, .string a, .string b, .slice (some ⟨g, 0, none⟩) nn c]) x l (k + 1) (.slice va vm vb) L4 S4 w3) := hI3; clear hI3) | (at_builtin; refine wpList_app_run rfl (.tmp 41) (.tmp 45) 170 rfl _ _ _ rfl rfl hap ?_))
   go_roundw
   case rel => exact ⟨k + 1, _, L4, S4, rfl, by omega, by go_num, HI3.out⟩
   case measure => simp [intOf]; omega
  ·obtain rfl : k = nn := by omega
   have hI := HI.out
   have e : l.take k = l := List.take_of_length_le (by have := HNN.out; omega)
   have hno := hI.nmo
   have hkn := hI.kn
   rw [e] at hno hkn
   obtain ⟨nx, nc, rfl⟩ := owns_form hno
   have HP : Hid (NamedP U lo tb f who L S w (namedL ts x l) (.returned (.slice nx (namedL ts x l).length nc)) wr) := by
    refine ⟨L3, S3, nx, nc, rfl, owns_cxrow (by rw [List.length_map]; exact hno), fun _ => ?_, hkn, hI.st⟩
    rcases hno.2 with ⟨e1, -⟩ | ⟨g, cap, cur, e1, -⟩
    ·injection e1 with e1 _ e2; exact Or.inl ⟨e1, e2⟩
    ·injection e1 with e1; exact Or.inr ⟨g, e1⟩
   clear hno hkn hI e
   go_wp2
   go_ret
   exact HP.out
theorem named_leaf {U : List ByteArray} {ts : List (Nod × Nod)} {xs : List ByteArray} {lo tb sb : Nat} {f : Nod -> Option Value} {who : Nod -> Nat} {is : Int} {a b : ByteArray} {l : List WayT} (his : isLeaf is = true) : NamedC U ts xs lo tb sb f who (.mk is a b l) := by
 intro L S w x v h hv hrel hlv kx
 rw [relsW, if_pos his] at hrel
 rw [namedW, if_pos his]
 obtain ⟨o, c, rfl, -⟩ := hv.parts
 unfold leafW
 have hc : is = 0 \/ is = 1 \/ is = 2 := by unfold isLeaf at his; simp at his; omega
 rcases hc with rfl | rfl | rfl
 ·rw [if_pos rfl]; exact named_this h kx a b o _ c
 ·rw [if_neg (by decide), if_pos rfl]; exact named_same h kx a b (hrel b (by simp)) o _ c
 ·rw [if_neg (by decide), if_neg (by decide)]; exact named_through h kx a b (hrel a (by simp)) (hrel b (by simp)) o _ c
mutual
theorem named_all {U : List ByteArray} {ts : List (Nod × Nod)} {xs : List ByteArray} {lo tb sb : Nat} {f : Nod -> Option Value} {who : Nod -> Nat} : (t : WayT) -> NamedC U ts xs lo tb sb f who t
 | .mk is a b l => by
  by_cases h : isLeaf is = true
  ·exact named_leaf h
  ·exact named_parts (by simpa using h) (named_alls l)
theorem named_alls {U : List ByteArray} {ts : List (Nod × Nod)} {xs : List ByteArray} {lo tb sb : Nat} {f : Nod -> Option Value} {who : Nod -> Nat} : (l : List WayT) -> ∀ t ∈ l, NamedC U ts xs lo tb sb f who t
 | [], _, h => by cases h
 | a :: l, t, h => by
  rcases List.mem_cons.1 h with e | h
  ·rw [e]; exact named_all a
  ·exact named_alls l t h
end
def TWayC : Prop := ∀ {U : List ByteArray} {w : World} {lo tb : Nat} {L : TL} {S : TS} {f : Nod -> Option Value} {who : Nod -> Nat} {xs : List ByteArray}, TiesAt U w lo tb L S f who -> RulesN w L.mb xs -> ∀ {x : Nod}, Kn S x -> x.k.size <= maxLen -> x.r.size <= maxLen ->
  Calls Tryz.prog 204 #[.pointer (some ⟨tb, 0, none⟩), cxN S x] w fun e w' => ∃ is a b y n c, e = .returned (.agg #[.int .i64 is, .string a, .string b, .slice y n c]) /\ WayAt w' (fun _ => True) (ruleN xs x) (.agg #[.int .i64 is, .string a, .string b, .slice y n c]) /\ Below w.heap.size w w'
theorem numF_keys {α : Type} (enc : α -> Value) : ∀ (vs : List α) (n : Nat) (a : α), a ∈ vs -> ∃ p ∈ numF enc n vs, p.1 = enc a := by
 intro vs
 induction vs with
 | nil => intro n a h; cases h
 | cons b l ih =>
  intro n a h
  rw [numF]
  rcases List.mem_cons.1 h with rfl | h
  ·exact ⟨(enc a, .int .i64 n), List.mem_cons_self, rfl⟩
  ·obtain ⟨p, hp, e⟩ := ih (n + 1) a h
   exact ⟨p, by simp [hp], e⟩
theorem TiesAt.okx {U : List ByteArray} {w : World} {lo tb : Nat} {L : TL} {S : TS} {f : Nod -> Option Value} {who : Nod -> Nat} (h : TiesAt U w lo tb L S f who) {x : Nod} (kx : Kn S x) : x.k.size <= maxLen /\ x.r.size <= maxLen := by
 refine ⟨?_, h.ok.Us _ (h.ok.rU _ kx.2)⟩
 obtain ⟨es, c, h1, h2, h3, h4⟩ := h.th.map
 obtain ⟨p, hp, e⟩ := numF_keys ndV S.ths 0 x.th kx.1
 obtain ⟨y, e2, o1, -⟩ := h3 p hp
 rw [e] at e2
 have := ndV_inj e2
 rw [← this] at o1
 exact o1
structure Cov (U xs : List ByteArray) : Prop where
 rel : ∀ x, ∀ r ∈ relsW (ruleN xs x), r ∈ U
 lv : ∀ x, lvW (ruleN xs x) <= 201
def fltK (l : List Nod) (k : Nat) : List Nod := (l.take k).filter fun y => !y.isTh
theorem fltK_yes {l : List Nod} {k : Nat} {y : Nod} (hy : l[k]? = some y) (ht : y.isTh = false) : fltK l (k + 1) = fltK l k ++ [y] := by
 obtain ⟨hk, e⟩ := List.getElem?_eq_some_iff.1 hy
 unfold fltK
 rw [List.take_succ_eq_append_getElem hk, e, List.filter_append]
 simp [ht]
theorem fltK_no {l : List Nod} {k : Nat} {y : Nod} (hy : l[k]? = some y) (ht : y.isTh = true) : fltK l (k + 1) = fltK l k := by
 obtain ⟨hk, e⟩ := List.getElem?_eq_some_iff.1 hy
 unfold fltK
 rw [List.take_succ_eq_append_getElem hk, e, List.filter_append]
 simp [ht]
theorem fltK_len (l : List Nod) (k : Nat) : (fltK l k).length <= l.length := by
 unfold fltK
 have h1 := List.length_filter_le (fun y : Nod => !y.isTh) (l.take k)
 rw [List.length_take] at h1
 omega
def NamesP (U : List ByteArray) (lo tb : Nat) (f : Nod -> Option Value) (who : Nod -> Nat) (L : TL) (S : TS) (w : World) (l : List Nod) (e : Ending) (w' : World) : Prop :=
 ∃ L' S' v, e = .returned v /\ w'.ownsRow w.heap.size 136 1 v l.length (l.map (cxN S')) /\ (∀ y ∈ l, Kn S' y) /\ RStep U lo tb f who L S w L' S' w'
theorem flt_next {w2 wr : World} {S2 : TS} {l : List Nod} {k : Nat} {nm : Value} (hl : l.length <= 10251) (hown : wr.ownsRow w2.heap.size 136 1 nm (fltK l k).length ((fltK l k).map (cxN S2))) (hb : Below w2.heap.size w2 wr) {y : Nod} (hy : l[k]? = some y) (ht : y.isTh = false) {p q : Nat} (hpq : cxN S2 y = .complex .f64 p q) :
  ∃ v' w3, (Builtin.append_ #[170, 170] 170 #[nm, .slice (some ⟨wr.heap.size, 0, none⟩) 1 1]).run Tryz.prog (wr.alloc (.cells #[.complex .f64 p q] 136)) = .ok v' w3 /\ (∃ x c, v' = .slice x ((fltK l k).length + 1) c) /\ w3.ownsRow w2.heap.size 136 1 v' (fltK l (k + 1)).length ((fltK l (k + 1)).map (cxN S2)) /\ Below w2.heap.size w2 w3 := by
 have hln := fltK_len l k
 obtain ⟨v', w3, hr, o3, g3, n3⟩ := app_at Tryz.underlying170 Tryz.infoCx rfl (by decide) (by decide) wr w2.heap.size nm (fltK l k).length ((fltK l k).map (cxN S2)) [.complex .f64 p q] rfl (by intro u hu; simp at hu; rw [hu]; rfl) hown hb.size (by omega)
 refine ⟨v', w3, hr, owns_form o3, ?_, hb.grown g3 hb.size (fun j hj => (owns_lt hown j hj).2.1)⟩
 rw [fltK_yes hy ht, List.length_append, List.map_append, List.map_cons, List.map_nil, hpq]
 exact o3
theorem names_any (HW : Hid TWayC) {U : List ByteArray} {ts : List (Nod × Nod)} {xs : List ByteArray} (cov : Cov U xs) {lo tb sb : Nat} {f : Nod -> Option Value} {who : Nod -> Nat} {L : TL} {S : TS} {w : World} {x : Nod} (h : TA U ts xs lo tb sb f who L S w) (kx : Kn S x) :
  Calls Tryz.prog 182 #[.pointer (some ⟨tb, 0, none⟩), cxN S x] w (NamesP U lo tb f who L S w (namesN ts (ruleN xs) x)) := by
 have HWY : Hid (Calls Tryz.prog 204 #[.pointer (some ⟨tb, 0, none⟩), cxN S x] w fun e w' => ∃ is a b y n c, e = .returned (.agg #[.int .i64 is, .string a, .string b, .slice y n c]) /\ WayAt w' (fun _ => True) (ruleN xs x) (.agg #[.int .i64 is, .string a, .string b, .slice y n c]) /\ Below w.heap.size w w') := HW.out h.t h.r kx (h.t.okx kx).1 (h.t.okx kx).2
 obtain ⟨l, hl⟩ : ∃ l, namedW ts x (ruleN xs x) = l := ⟨_, rfl⟩
 have hll : l.length <= 10251 := by
  rw [← hl]
  have h1 := namedW_len ts x (ruleN xs x)
  have h3 := h.tn
  have : lvW (ruleN xs x) * (ts.length + 1) <= 201 * 51 := Nat.mul_le_mul (cov.lv x) (by omega)
  omega
 have HNM : Hid (∀ w1 v, Below w.heap.size w w1 -> WayAt w1 (fun _ => True) (ruleN xs x) v -> Calls Tryz.prog 215 #[.pointer (some ⟨tb, 0, none⟩), cxN S x, v] w1 (NamedP U lo tb f who L S w1 l)) := by
  intro w1 v hb1 hv
  rw [← hl]
  exact named_all (ruleN xs x) L S w1 x v (h.below hb1) hv (cov.rel x) (cov.lv x) kx
 have HF : Hid (namesN ts (ruleN xs) x = fltK l l.length) := by
  show _ = _
  unfold namesN fltK
  rw [hl, List.take_of_length_le (Nat.le_refl _)]
 have HT : Hid (TA U ts xs lo tb sb f who L S w) := h
 rw [HF.out]
 generalize cxN S x = cx at *
 obtain ⟨nn, hnn⟩ : ∃ nn, l.length = nn := ⟨_, rfl⟩
 have HNN : Hid (l.length = nn) := hnn
 rw [hnn] at hll ⊢
 clear h kx hl HF hnn
 go_enter Tryz.func182, Tryz.ntmps182
 go_wp2_with (first | (go_at_call 204; refine HWY.out.mono ?_; rintro e w1 ⟨is, a, b, y, n, c, rfl, hwy, hb1⟩; have HWW : Hid (WayAt w1 (fun _ => True) (ruleN xs x) (.agg #[.int .i64 is, .string a, .string b, .slice y n c])) := hwy; clear hwy) | (go_at_call 215; refine (HNM.out _ _ hb1 HWW.out).mono ?_; rintro e w2 ⟨L2, S2, o, cc, rfl, hrow, hnil, hkn, hr2⟩; clear hnil; have HROW : Hid (CxRow w2 (.slice o l.length cc) (l.map (cxN S2))) := hrow; have HKN : Hid (∀ y ∈ l, Kn S2 y) := hkn; have HR2 : Hid (RStep U lo tb f who L S w1 L2 S2 w2) := hr2; clear hrow hkn hr2; rw [HNN.out] at HROW ⊢))
 have HOK : Hid (TS.Ok U S2) := HR2.out.at'.ok
 go_loopw [5, 15] (fun nm i wr => ∃ (k : Nat) (nm' : Value), nm' = nm /\ k <= nn /\ i = .int .i64 k /\ wr.ownsRow w2.heap.size 136 1 nm' (fltK l k).length ((fltK l k).map (cxN S2)) /\ Below w2.heap.size w2 wr) (fun _ i _ => nn - (intOf i).toNat)
 case atStart =>
  refine ⟨0, _, rfl, Nat.zero_le _, rfl, ?_, Below.refl _ _⟩
  have : fltK l 0 = [] := by simp [fltK]
  rw [this]; exact World.ownsRow_nil _ _ _ _
 case round =>
  obtain ⟨k, nm, rfl, hk, rfl, hown, hbb⟩ := hrel
  by_cases hlt : k < nn
  ·have hkl : k < l.length := by have := HNN.out; omega
   obtain ⟨z, hz⟩ : ∃ z, l[k]? = some z := ⟨_, List.getElem?_eq_getElem hkl⟩
   obtain ⟨o', c', he, hc⟩ := HROW.out.below hbb
   obtain ⟨g, hog, hcell⟩ := hc k (cxN S2 z) (by rw [List.getElem?_map, hz]; rfl)
   have hoo : o = some ⟨g, 0, none⟩ := by injection he with he; rw [he]; exact hog
   subst hoo
   have kz : Kn S2 z := HKN.out z (List.mem_of_getElem? hz)
   have hth := fun w1 => cxThing_any (S := S2) (U := U) HOK.out kz w1
   have HOW : Hid (wr.ownsRow w2.heap.size 136 1 nm (fltK l k).length ((fltK l k).map (cxN S2))) := hown
   have HZ : Hid (l[k]? = some z) := hz
   clear he hc hog hz hkl kz hown
   cases hzt : z.isTh
   ·rw [hzt] at hth
    have HNX : Hid (∀ p q, cxN S2 z = .complex .f64 p q -> _) := fun p q hpq => flt_next (by have := HNN.out; omega) HOW.out hbb HZ.out hzt (p := p) (q := q) hpq
    obtain ⟨nx, nc, hnm⟩ := owns_form HOW.out
    generalize (fltK l k).length = m at *
    subst hnm
    obtain ⟨p, q, hpq⟩ : ∃ p q, cxN S2 z = .complex .f64 p q := ⟨_, _, rfl⟩
    obtain ⟨v', w3, hap, ⟨vx, vc, rfl⟩, hown3, hb3⟩ := HNX.out p q hpq
    have HO3 : Hid (w3.ownsRow w2.heap.size 136 1 (.slice vx (m + 1) vc) (fltK l (k + 1)).length ((fltK l (k + 1)).map (cxN S2))) := hown3
    rw [hpq] at hcell hth
    clear hzt HNX hown3 hpq
    go_wp2_with (first | (go_at_call 181; refine (hth _).mono ?_; rintro e w1' ⟨rfl, hw1⟩; subst w1') | (at_builtin; refine wpList_app_run rfl (.tmp 22) (.tmp 24) 170 rfl _ _ _ rfl rfl hap ?_))
    go_roundw
    case rel => exact ⟨k + 1, _, rfl, by omega, by go_num, HO3.out, hb3⟩
    case measure => simp [intOf]; omega
   ·rw [hzt] at hth
    have HO3 : Hid (wr.ownsRow w2.heap.size 136 1 nm (fltK l (k + 1)).length ((fltK l (k + 1)).map (cxN S2))) := by
     show World.ownsRow _ _ _ _ _ _ _
     rw [fltK_no HZ.out hzt]; exact HOW.out
    clear hzt
    generalize cxN S2 z = cz at *
    go_wp2_with (go_at_call 181; refine (hth _).mono ?_; rintro e w1' ⟨rfl, hw1⟩; subst w1')
    go_roundw
    case rel => exact ⟨k + 1, _, rfl, by omega, by go_num, HO3.out, hbb⟩
    case measure => simp [intOf]; omega
  ·obtain rfl : k = nn := by omega
   have HFIN : Hid (NamesP U lo tb f who L S w (fltK l k) (.returned nm) wr) := by
    have r := (RStep.below HT.out.t hb1).trans (HR2.out.trans (RStep.below HR2.out.at' hbb))
    refine ⟨L2, S2, nm, rfl, owns_base hown (Nat.le_trans hb1.size HR2.out.fr.size), fun y hy => ?_, r⟩
    have := (List.mem_filter.1 hy).1
    exact HKN.out y (List.mem_of_mem_take this)
   clear hown
   go_wp2
   go_ret
   exact HFIN.out
def ToldP (U : List ByteArray) (lo tb : Nat) (f : Nod -> Option Value) (who : Nod -> Nat) (L : TL) (S : TS) (w : World) (c : Nat) (e : Ending) (w' : World) : Prop :=
 e = .returned (.int .u64 c) /\ ∃ L' S', RStep U lo tb f who L S w L' S' w'
def ToldC (U : List ByteArray) (ts : List (Nod × Nod)) (xs : List ByteArray) (lo tb sb : Nat) (f : Nod -> Option Value) (who : Nod -> Nat) (t : WayT) : Prop :=
 ∀ (L : TL) (S : TS) (w : World) (x : Nod) (v : Value), TA U ts xs lo tb sb f who L S w -> WayAt w (fun _ => True) t v -> (∀ r ∈ relsW t, r ∈ U) -> lvW t <= 201 -> Kn S x ->
  Calls Tryz.prog 203 #[.pointer (some ⟨tb, 0, none⟩), cxN S x, v] w (ToldP U lo tb f who L S w (crW ts who x t))
theorem TA.who {U : List ByteArray} {ts : List (Nod × Nod)} {xs : List ByteArray} {lo tb sb : Nat} {f : Nod -> Option Value} {who : Nod -> Nat} {L : TL} {S : TS} {w : World} (h : TA U ts xs lo tb sb f who L S w) {x : Nod} (kx : Kn S x) :
  (Instr.lookup 180 (.map (some L.mw)) (cxN S x) false).run Tryz.prog w = .ok (.int .u64 (who x)) w := by
 obtain ⟨m, h1, h2⟩ := h.t.wh
 have hl := (map_look cx_ok Tryz.underlying180 h1 (h.t.ok.good kx) (Tryz.zeroValue184 w)).2
 rw [h2.2.1 x kx] at hl
 exact hl
def orK (who : Nod -> Nat) (l : List Nod) (k : Nat) : Nat := orW who (l.take k)
theorem orK_next {who : Nod -> Nat} {l : List Nod} {k : Nat} {y : Nod} (hy : l[k]? = some y) : orK who l (k + 1) = orK who l k ||| who y := by
 obtain ⟨hk, e⟩ := List.getElem?_eq_some_iff.1 hy
 unfold orK orW
 rw [List.take_succ_eq_append_getElem hk, e, List.foldl_append]
 rfl
theorem wrap_u64 {n : Nat} (h : n < 2 ^ 64) : IntKind.u64.wrap (n : Int) = n := by
 unfold IntKind.wrap
 simp [IntKind.bits, IntKind.signed]
 omega
theorem bits_or64 {a b : Nat} (ha : a < 2 ^ 64) (hb : b < 2 ^ 64) : bits .or .u64 (a : Int) (b : Int) = ((a ||| b : Nat) : Int) := by
 unfold bits
 have e1 : BitVec.ofInt IntKind.u64.bits (a : Int) = BitVec.ofNat 64 a := BitVec.ofInt_natCast _ _
 have e2 : BitVec.ofInt IntKind.u64.bits (b : Int) = BitVec.ofNat 64 b := BitVec.ofInt_natCast _ _
 have e3 : (BitVec.ofNat 64 a ||| BitVec.ofNat 64 b).toNat = a ||| b := by
  rw [BitVec.toNat_or, BitVec.toNat_ofNat, BitVec.toNat_ofNat, Nat.mod_eq_of_lt ha, Nat.mod_eq_of_lt hb]
 dsimp only
 rw [e1, e2]
 show IntKind.u64.wrap ((BitVec.ofNat 64 a ||| BitVec.ofNat 64 b).toNat : Int) = _
 rw [e3, wrap_u64 (Nat.or_lt_two_pow ha hb)]
theorem bits_and64 {a b : Nat} (ha : a < 2 ^ 64) (hb : b < 2 ^ 64) : bits .and .u64 (a : Int) (b : Int) = ((a &&& b : Nat) : Int) := by
 unfold bits
 have e1 : BitVec.ofInt IntKind.u64.bits (a : Int) = BitVec.ofNat 64 a := BitVec.ofInt_natCast _ _
 have e2 : BitVec.ofInt IntKind.u64.bits (b : Int) = BitVec.ofNat 64 b := BitVec.ofInt_natCast _ _
 have e3 : (BitVec.ofNat 64 a &&& BitVec.ofNat 64 b).toNat = a &&& b := by
  rw [BitVec.toNat_and, BitVec.toNat_ofNat, BitVec.toNat_ofNat, Nat.mod_eq_of_lt ha, Nat.mod_eq_of_lt hb]
 dsimp only
 rw [e1, e2]
 show IntKind.u64.wrap ((BitVec.ofNat 64 a &&& BitVec.ofNat 64 b).toNat : Int) = _
 rw [e3, wrap_u64 (Nat.and_lt_two_pow _ hb)]
theorem crO_snoc (ts : List (Nod × Nod)) (who : Nod -> Nat) (x : Nod) (l : List WayT) (t : WayT) : crO ts who x (l ++ [t]) = crO ts who x l ||| crW ts who x t := by
 induction l with
 | nil => simp [crO]
 | cons a l ih => rw [List.cons_append, crO, crO, ih, Nat.or_assoc]
theorem crA_snoc (ts : List (Nod × Nod)) (who : Nod -> Nat) (x : Nod) (l : List WayT) (t : WayT) : crA ts who x (l ++ [t]) = crA ts who x l &&& crW ts who x t := by
 induction l with
 | nil =>
  simp [crA, Nat.and_comm]
 | cons a l ih => rw [List.cons_append, crA, crA, ih, Nat.and_assoc]
theorem takeL_snoc {α : Type} {l : List α} {k : Nat} {t : α} (h : l[k]? = some t) : l.take (k + 1) = l.take k ++ [t] := by
 obtain ⟨hk, e⟩ := List.getElem?_eq_some_iff.1 h
 rw [List.take_succ_eq_append_getElem hk, e]
structure CrInv (U : List ByteArray) (ts : List (Nod × Nod)) (xs : List ByteArray) (lo tb sb : Nat) (f : Nod -> Option Value) (who : Nod -> Nat) (L : TL) (S : TS) (w : World) (wt : WayT) (wv : Value) (L3 : TL) (S3 : TS) (wr : World) : Prop where
 ta : TA U ts xs lo tb sb f who L3 S3 wr
 st : RStep U lo tb f who L S w L3 S3 wr
 wy : WayAt wr (fun _ => True) wt wv
def PartsC (F : Nat) (g : List WayT -> Nat) (U : List ByteArray) (ts : List (Nod × Nod)) (xs : List ByteArray) (lo tb sb : Nat) (f : Nod -> Option Value) (who : Nod -> Nat) (x : Nod) (l : List WayT) : Prop :=
 ∀ (L : TL) (S : TS) (w : World) (is : Int) (a b : ByteArray) (o : Option Addr) (c : Nat), TA U ts xs lo tb sb f who L S w -> WayAt w (fun _ => True) (.mk is a b l) (.agg #[.int .i64 is, .string a, .string b, .slice o l.length c]) -> (∀ r ∈ relsL l, r ∈ U) -> lvL l <= 201 -> Kn S x ->
  Calls Tryz.prog F #[.pointer (some ⟨tb, 0, none⟩), cxN S x, .slice o l.length c] w (ToldP U lo tb f who L S w (g l))
theorem inOne_any {U : List ByteArray} {ts : List (Nod × Nod)} {xs : List ByteArray} {lo tb sb : Nat} {f : Nod -> Option Value} {who : Nod -> Nat} (hs : ∀ y, who y < 2 ^ 64) {x : Nod} {l : List WayT} (HC : Hid (∀ t ∈ l, ToldC U ts xs lo tb sb f who t)) : PartsC 221 (crO ts who x) U ts xs lo tb sb f who x l := by
 intro L S w is a b o c h hv hrel hlv kx
 have HST : Hid (CrInv U ts xs lo tb sb f who L S w (.mk is a b l) (.agg #[.int .i64 is, .string a, .string b, .slice o l.length c]) L S w) := ⟨h, RStep.below h.t (Below.refl _ _), hv⟩
 have HKX : Hid (Kn S x) := kx
 have HR : Hid (∀ r ∈ relsL l, r ∈ U) := hrel
 have HLV : Hid (lvL l <= 201) := hlv
 have hlb : l.length <= 1000 := by
  rcases Nat.eq_zero_or_pos l.length with e | e
  ·omega
  ·obtain ⟨o', c', e1, hp⟩ := hv.parts
   obtain ⟨g, pi, pa, pb, po, pn, pc, -, -, -, -, -, -, hle⟩ := hp 0 l[0] (List.getElem?_eq_getElem e)
   exact hle
 obtain ⟨cx, hcx⟩ : ∃ cx, cxN S x = cx := ⟨_, rfl⟩
 have HCX : Hid (cxN S x = cx) := hcx
 rw [hcx]
 obtain ⟨nn, hnn⟩ : ∃ nn, l.length = nn := ⟨_, rfl⟩
 have HNN : Hid (l.length = nn) := hnn
 have HSM : Hid (∀ y, who y < 2 ^ 64) := hs
 rw [hnn] at HST hlb ⊢
 clear h hv hrel hlv kx hcx hnn hs
 go_enter Tryz.func221, Tryz.ntmps221
 go_wp2
 go_loopw [7, 12] (fun ac i wr => ∃ (k : Nat) (L3 : TL) (S3 : TS), ac = .int .u64 (crO ts who x (l.take k) : Nat) /\ k <= nn /\ i = .int .i64 k /\ CrInv U ts xs lo tb sb f who L S w (.mk is a b l) (.agg #[.int .i64 is, .string a, .string b, .slice o nn c]) L3 S3 wr) (fun _ i _ => nn - (intOf i).toNat)
 case atStart => exact ⟨0, L, S, by simp [crO], Nat.zero_le _, rfl, HST.out⟩
 case round =>
  obtain ⟨k, L3, S3, rfl, hk, rfl, hI⟩ := hrel
  have HI : Hid (CrInv U ts xs lo tb sb f who L S w (.mk is a b l) (.agg #[.int .i64 is, .string a, .string b, .slice o nn c]) L3 S3 wr) := hI
  clear hI HST
  by_cases hlt : k < nn
  ·have hkl : k < l.length := by have := HNN.out; omega
   obtain ⟨t, ht⟩ : ∃ t, l[k]? = some t := ⟨_, List.getElem?_eq_getElem hkl⟩
   obtain ⟨o', c', he, hp⟩ := HI.out.wy.parts
   obtain ⟨g, pi, pa, pb, po, pn, pc, hog, hwt, p0, p1, p2, p3, -⟩ := hp k t ht
   have hoo : o = some ⟨g, 0, none⟩ := by
    simp only [Value.agg.injEq, Array.mk.injEq, List.cons.injEq, Value.slice.injEq] at he
    rw [he.2.2.2.1.1]; exact hog
   subst hoo
   have hm := List.mem_of_getElem? ht
   have HNM : Hid (∀ w1, Below wr.heap.size wr w1 -> Calls Tryz.prog 203 #[.pointer (some ⟨tb, 0, none⟩), cx, .agg #[.int .i64 pi, .string pa, .string pb, .slice po pn pc]] w1 fun e w2 => e = .returned (.int .u64 (crW ts who x t)) /\ ∃ L4 S4, CrInv U ts xs lo tb sb f who L S w (.mk is a b l) (.agg #[.int .i64 is, .string a, .string b, .slice (some ⟨g, 0, none⟩) nn c]) L4 S4 w2) := by
    intro w1 hb1
    have kx3 := HKX.out.le HI.out.st.le
    have := HC.out t hm L3 S3 w1 x _ (HI.out.ta.below hb1) (hwt.move2 fun g _ hg hc => ⟨hg, hb1.block g (row_lt hc)⟩) (fun r hr => HR.out r (relsL_mem hm hr)) (by have := lvL_mem hm; have := HLV.out; omega) kx3
    rw [cxN_le HI.out.st.le HKX.out, HCX.out] at this
    refine this.mono ?_
    rintro e w2 ⟨he2, L4, S4, r4⟩
    have r := (RStep.below HI.out.ta.t hb1).trans r4
    exact ⟨he2, L4, S4, HI.out.ta.rstep r, HI.out.st.trans r, HI.out.wy.rstep HI.out.ta.t r⟩
   have HAC : Hid (crO ts who x (l.take (k + 1)) = crO ts who x (l.take k) ||| crW ts who x t) := by
    show _ = _
    rw [takeL_snoc ht, crO_snoc]
   have HL1 : Hid (crO ts who x (l.take k) < 2 ^ 64 /\ crW ts who x t < 2 ^ 64) := ⟨crO_lt HSM.out _, crW_lt HSM.out _⟩
   clear he hp hog hwt hm ht hkl
   generalize crO ts who x (l.take k) = ac at *
   generalize crW ts who x t = cw at *
   go_wp2_with (go_at_call 203; refine (HNM.out _ (by repeat (first | exact Below.refl _ _ | refine Below.setCell ?_ (by first | exact Nat.le_refl _ | (simp; done) | (simp; omega)) _ | refine below_drewN ?_ _ | refine Below.drew ?_ | refine Below.alloc ?_ (by first | exact Nat.le_refl _ | (simp; done) | (simp; omega)) _))).mono ?_; rintro e w2 ⟨rfl, L4, S4, hI3⟩; have HI3 : Hid (CrInv U ts xs lo tb sb f who L S w (.mk is a b l) (.agg #[.int .i64 is, .string a, .string b, .slice (some ⟨g, 0, none⟩) nn c]) L4 S4 w2) := hI3; clear hI3)
   go_roundw
   case rel => exact ⟨k + 1, L4, S4, by rw [HAC.out, bits_or64 HL1.out.1 HL1.out.2], by omega, by go_num, HI3.out⟩
   case measure => simp [intOf]; omega
  ·obtain rfl : k = nn := by omega
   have e : l.take k = l := List.take_of_length_le (by have := HNN.out; omega)
   rw [e]
   have HP : Hid (ToldP U lo tb f who L S w (crO ts who x l) (.returned (.int .u64 (crO ts who x l))) wr) := ⟨rfl, L3, S3, HI.out.st⟩
   clear e
   go_wp2
   go_ret
   exact HP.out
theorem inEach_any {U : List ByteArray} {ts : List (Nod × Nod)} {xs : List ByteArray} {lo tb sb : Nat} {f : Nod -> Option Value} {who : Nod -> Nat} (hs : ∀ y, who y < 2 ^ 64) {x : Nod} {l : List WayT} (HC : Hid (∀ t ∈ l, ToldC U ts xs lo tb sb f who t)) : PartsC 222 (crA ts who x) U ts xs lo tb sb f who x l := by
 intro L S w is a b o c h hv hrel hlv kx
 have HST : Hid (CrInv U ts xs lo tb sb f who L S w (.mk is a b l) (.agg #[.int .i64 is, .string a, .string b, .slice o l.length c]) L S w) := ⟨h, RStep.below h.t (Below.refl _ _), hv⟩
 have HKX : Hid (Kn S x) := kx
 have HR : Hid (∀ r ∈ relsL l, r ∈ U) := hrel
 have HLV : Hid (lvL l <= 201) := hlv
 have hlb : l.length <= 1000 := by
  rcases Nat.eq_zero_or_pos l.length with e | e
  ·omega
  ·obtain ⟨o', c', e1, hp⟩ := hv.parts
   obtain ⟨g, pi, pa, pb, po, pn, pc, -, -, -, -, -, -, hle⟩ := hp 0 l[0] (List.getElem?_eq_getElem e)
   exact hle
 obtain ⟨cx, hcx⟩ : ∃ cx, cxN S x = cx := ⟨_, rfl⟩
 have HCX : Hid (cxN S x = cx) := hcx
 rw [hcx]
 obtain ⟨nn, hnn⟩ : ∃ nn, l.length = nn := ⟨_, rfl⟩
 have HNN : Hid (l.length = nn) := hnn
 have HSM : Hid (∀ y, who y < 2 ^ 64) := hs
 rw [hnn] at HST hlb ⊢
 clear h hv hrel hlv kx hcx hnn hs
 go_enter Tryz.func222, Tryz.ntmps222
 go_wp2
 go_loopw [7, 12] (fun ac i wr => ∃ (k : Nat) (L3 : TL) (S3 : TS), ac = .int .u64 (crA ts who x (l.take k) : Nat) /\ k <= nn /\ i = .int .i64 k /\ CrInv U ts xs lo tb sb f who L S w (.mk is a b l) (.agg #[.int .i64 is, .string a, .string b, .slice o nn c]) L3 S3 wr) (fun _ i _ => nn - (intOf i).toNat)
 case atStart => exact ⟨0, L, S, by simp [crA, allB], Nat.zero_le _, rfl, HST.out⟩
 case round =>
  obtain ⟨k, L3, S3, rfl, hk, rfl, hI⟩ := hrel
  have HI : Hid (CrInv U ts xs lo tb sb f who L S w (.mk is a b l) (.agg #[.int .i64 is, .string a, .string b, .slice o nn c]) L3 S3 wr) := hI
  clear hI HST
  by_cases hlt : k < nn
  ·have hkl : k < l.length := by have := HNN.out; omega
   obtain ⟨t, ht⟩ : ∃ t, l[k]? = some t := ⟨_, List.getElem?_eq_getElem hkl⟩
   obtain ⟨o', c', he, hp⟩ := HI.out.wy.parts
   obtain ⟨g, pi, pa, pb, po, pn, pc, hog, hwt, p0, p1, p2, p3, -⟩ := hp k t ht
   have hoo : o = some ⟨g, 0, none⟩ := by
    simp only [Value.agg.injEq, Array.mk.injEq, List.cons.injEq, Value.slice.injEq] at he
    rw [he.2.2.2.1.1]; exact hog
   subst hoo
   have hm := List.mem_of_getElem? ht
   have HNM : Hid (∀ w1, Below wr.heap.size wr w1 -> Calls Tryz.prog 203 #[.pointer (some ⟨tb, 0, none⟩), cx, .agg #[.int .i64 pi, .string pa, .string pb, .slice po pn pc]] w1 fun e w2 => e = .returned (.int .u64 (crW ts who x t)) /\ ∃ L4 S4, CrInv U ts xs lo tb sb f who L S w (.mk is a b l) (.agg #[.int .i64 is, .string a, .string b, .slice (some ⟨g, 0, none⟩) nn c]) L4 S4 w2) := by
    intro w1 hb1
    have kx3 := HKX.out.le HI.out.st.le
    have := HC.out t hm L3 S3 w1 x _ (HI.out.ta.below hb1) (hwt.move2 fun g _ hg hc => ⟨hg, hb1.block g (row_lt hc)⟩) (fun r hr => HR.out r (relsL_mem hm hr)) (by have := lvL_mem hm; have := HLV.out; omega) kx3
    rw [cxN_le HI.out.st.le HKX.out, HCX.out] at this
    refine this.mono ?_
    rintro e w2 ⟨he2, L4, S4, r4⟩
    have r := (RStep.below HI.out.ta.t hb1).trans r4
    exact ⟨he2, L4, S4, HI.out.ta.rstep r, HI.out.st.trans r, HI.out.wy.rstep HI.out.ta.t r⟩
   have HAC : Hid (crA ts who x (l.take (k + 1)) = crA ts who x (l.take k) &&& crW ts who x t) := by
    show _ = _
    rw [takeL_snoc ht, crA_snoc]
   have HL1 : Hid (crA ts who x (l.take k) < 2 ^ 64 /\ crW ts who x t < 2 ^ 64) := ⟨crA_lt HSM.out _, crW_lt HSM.out _⟩
   clear he hp hog hwt hm ht hkl
   generalize crA ts who x (l.take k) = ac at *
   generalize crW ts who x t = cw at *
   go_wp2_with (go_at_call 203; refine (HNM.out _ (by repeat (first | exact Below.refl _ _ | refine Below.setCell ?_ (by first | exact Nat.le_refl _ | (simp; done) | (simp; omega)) _ | refine below_drewN ?_ _ | refine Below.drew ?_ | refine Below.alloc ?_ (by first | exact Nat.le_refl _ | (simp; done) | (simp; omega)) _))).mono ?_; rintro e w2 ⟨rfl, L4, S4, hI3⟩; have HI3 : Hid (CrInv U ts xs lo tb sb f who L S w (.mk is a b l) (.agg #[.int .i64 is, .string a, .string b, .slice (some ⟨g, 0, none⟩) nn c]) L4 S4 w2) := hI3; clear hI3)
   go_roundw
   case rel => exact ⟨k + 1, L4, S4, by rw [HAC.out, bits_and64 HL1.out.1 HL1.out.2], by omega, by go_num, HI3.out⟩
   case measure => simp [intOf]; omega
  ·obtain rfl : k = nn := by omega
   have e : l.take k = l := List.take_of_length_le (by have := HNN.out; omega)
   rw [e]
   have HP : Hid (ToldP U lo tb f who L S w (crA ts who x l) (.returned (.int .u64 (crA ts who x l))) wr) := ⟨rfl, L3, S3, HI.out.st⟩
   clear e
   go_wp2
   go_ret
   exact HP.out
theorem told_leaf {U : List ByteArray} {ts : List (Nod × Nod)} {xs : List ByteArray} {lo tb sb : Nat} {f : Nod -> Option Value} {who : Nod -> Nat} (hs : ∀ y, who y < 2 ^ 64) {is : Int} {a b : ByteArray} {l : List WayT} (h3 : ¬ is = 3) (h4 : ¬ is = 4) : ToldC U ts xs lo tb sb f who (.mk is a b l) := by
 intro L S w x v h hv hrel hlv kx
 rw [crW, if_neg h3, if_neg h4]
 obtain ⟨o, c, rfl, -⟩ := hv.parts
 have t3 : (is == 3) = false := by simpa using h3
 have t4 : (is == 4) = false := by simpa using h4
 obtain ⟨m, hm⟩ : ∃ m, namedW ts x (.mk is a b l) = m := ⟨_, rfl⟩
 have hml : m.length <= 10251 := by
  rw [← hm]
  have h1 := namedW_len ts x (.mk is a b l)
  have h3 := h.tn
  have : lvW (.mk is a b l) * (ts.length + 1) <= 201 * 51 := Nat.mul_le_mul hlv (by omega)
  omega
 have HNM : Hid (∀ w1, Below w.heap.size w w1 -> Calls Tryz.prog 215 #[.pointer (some ⟨tb, 0, none⟩), cxN S x, .agg #[.int .i64 is, .string a, .string b, .slice o l.length c]] w1 (NamedP U lo tb f who L S w1 m)) := by
  intro w1 hb1
  rw [← hm]
  exact named_all _ L S w1 x _ (h.below hb1) (hv.move2 fun g _ hg hc => ⟨hg, hb1.block g (row_lt hc)⟩) hrel hlv kx
 have HT : Hid (TA U ts xs lo tb sb f who L S w) := h
 have HSM : Hid (∀ y, who y < 2 ^ 64) := hs
 rw [hm]
 generalize cxN S x = cx at *
 obtain ⟨nn, hnn⟩ : ∃ nn, m.length = nn := ⟨_, rfl⟩
 have HNN : Hid (m.length = nn) := hnn
 rw [hnn] at hml
 generalize l.length = ll at *
 clear h hv hrel hlv kx hm hnn h3 h4 hs
 go_enter Tryz.func203, Tryz.ntmps203
 go_wp2_with (go_at_call 215; refine (HNM.out _ (by repeat (first | exact Below.refl _ _ | refine Below.setCell ?_ (by first | exact Nat.le_refl _ | (simp; done) | (simp; omega)) _ | refine below_drewN ?_ _ | refine Below.drew ?_ | refine Below.alloc ?_ (by first | exact Nat.le_refl _ | (simp; done) | (simp; omega)) _))).mono ?_; rintro e w2 ⟨L2, S2, o2, cc, rfl, hrow, hnil, hkn, hr2⟩; clear hnil; have HROW : Hid (CxRow w2 (.slice o2 m.length cc) (m.map (cxN S2))) := hrow; have HKN : Hid (∀ y ∈ m, Kn S2 y) := hkn; have HR2 : Hid (RStep U lo tb f who L S _ L2 S2 w2) := hr2; have c5 : w2.cell? ⟨tb, 5, none⟩ = some (.map (some L.mw)) := hr2.at'.cellN (L := L) hr2.tie (j := 5) rfl; have HLK : Hid (∀ y, Kn S2 y -> (Instr.lookup 180 (.map (some L.mw)) (cxN S2 y) false).run Tryz.prog w2 = .ok (.int .u64 (who y)) w2) := (fun y ky => (by have hz := ((HT.out.below (by repeat (first | exact Below.refl _ _ | refine Below.setCell ?_ (by first | exact Nat.le_refl _ | (simp; done) | (simp; omega)) _ | refine below_drewN ?_ _ | refine Below.drew ?_ | refine Below.alloc ?_ (by first | exact Nat.le_refl _ | (simp; done) | (simp; omega)) _))).rstep hr2).who ky; have e : L2.mw = L.mw := (by rw [hr2.loc]); rw [e] at hz; exact hz)); clear hrow hkn hr2; rw [HNN.out] at HROW ⊢)
 go_loop [7, 31] (fun ac i => ∃ k : Nat, ac = .int .u64 (orK who m k : Nat) /\ k <= nn /\ i = .int .i64 k) (fun _ i => nn - (intOf i).toNat)
 case atStart => exact ⟨0, by simp [orK, orW], Nat.zero_le _, rfl⟩
 case round =>
  obtain ⟨k, rfl, hk, rfl⟩ := hrel
  by_cases hlt : k < nn
  ·have hkl : k < m.length := by have := HNN.out; omega
   obtain ⟨z, hz⟩ : ∃ z, m[k]? = some z := ⟨_, List.getElem?_eq_getElem hkl⟩
   obtain ⟨o', c', he, hc⟩ := HROW.out
   obtain ⟨g, hog, hcell⟩ := hc k (cxN S2 z) (by rw [List.getElem?_map, hz]; rfl)
   have hoo : o2 = some ⟨g, 0, none⟩ := by injection he with he; rw [he]; exact hog
   subst hoo
   have hlk := HLK.out z (HKN.out z (List.mem_of_getElem? hz))
   have HAC : Hid (orK who m (k + 1) = orK who m k ||| who z) := orK_next hz
   have HL1 : Hid (orK who m k < 2 ^ 64 /\ who z < 2 ^ 64) := ⟨orW_lt HSM.out _ _ (by decide), HSM.out z⟩
   clear he hc hog hz hkl
   generalize orK who m k = ac at *
   generalize who z = cw at *
   generalize cxN S2 z = cz at *
   go_wp2
   go_round
   case rel => exact ⟨k + 1, by rw [HAC.out, bits_or64 HL1.out.1 HL1.out.2], by omega, by go_num⟩
   case measure => simp [intOf]; omega
  ·obtain rfl : k = nn := by omega
   have e : orK who m k = orW who m := by unfold orK; rw [List.take_of_length_le (by have := HNN.out; omega)]
   rw [e]
   clear e
   go_wp2
   go_ret
   exact ⟨rfl, L2, S2, (RStep.below HT.out.t (by repeat (first | exact Below.refl _ _ | refine Below.setCell ?_ (by first | exact Nat.le_refl _ | (simp; done) | (simp; omega)) _ | refine below_drewN ?_ _ | refine Below.drew ?_ | refine Below.alloc ?_ (by first | exact Nat.le_refl _ | (simp; done) | (simp; omega)) _))).trans HR2.out⟩
theorem told_any3 {U : List ByteArray} {ts : List (Nod × Nod)} {xs : List ByteArray} {lo tb sb : Nat} {f : Nod -> Option Value} {who : Nod -> Nat} {a b : ByteArray} {l : List WayT} (HC : Hid (∀ x, PartsC 221 (crO ts who x) U ts xs lo tb sb f who x l)) : ToldC U ts xs lo tb sb f who (.mk 3 a b l) := by
 intro L S w x v h hv hrel hlv kx
 rw [crW, if_pos rfl]
 rw [relsW, if_neg (by decide)] at hrel
 rw [lvW, if_neg (by decide)] at hlv
 obtain ⟨o, c, rfl, -⟩ := hv.parts
 have HNM : Hid (∀ w1, Below w.heap.size w w1 -> Calls Tryz.prog 221 #[.pointer (some ⟨tb, 0, none⟩), cxN S x, .slice o l.length c] w1 fun e w2 => e = .returned (.int .u64 (crO ts who x l)) /\ ToldP U lo tb f who L S w (crO ts who x l) (.returned (.int .u64 (crO ts who x l))) w2) := by
  intro w1 hb1
  refine (HC.out x L S w1 3 a b o c (h.below hb1) (hv.move2 fun g _ hg hc => ⟨hg, hb1.block g (row_lt hc)⟩) hrel hlv kx).mono ?_
  rintro e w2 ⟨he, L2, S2, r⟩
  exact ⟨he, rfl, L2, S2, (RStep.below h.t hb1).trans r⟩
 generalize cxN S x = cx at *
 generalize crO ts who x l = cr at *
 generalize l.length = ll at *
 clear h hv hrel hlv kx HC
 go_enter Tryz.func203, Tryz.ntmps203
 go_wp2_with (go_at_call 221; refine (HNM.out _ (by repeat (first | exact Below.refl _ _ | refine Below.setCell ?_ (by first | exact Nat.le_refl _ | (simp; done) | (simp; omega)) _ | refine below_drewN ?_ _ | refine Below.drew ?_ | refine Below.alloc ?_ (by first | exact Nat.le_refl _ | (simp; done) | (simp; omega)) _))).mono ?_; rintro e w2 ⟨rfl, hp⟩)
 go_ret
 exact hp
theorem told_any4 {U : List ByteArray} {ts : List (Nod × Nod)} {xs : List ByteArray} {lo tb sb : Nat} {f : Nod -> Option Value} {who : Nod -> Nat} {a b : ByteArray} {l : List WayT} (HC : Hid (∀ x, PartsC 222 (crA ts who x) U ts xs lo tb sb f who x l)) : ToldC U ts xs lo tb sb f who (.mk 4 a b l) := by
 intro L S w x v h hv hrel hlv kx
 rw [crW, if_neg (by decide), if_pos rfl]
 rw [relsW, if_neg (by decide)] at hrel
 rw [lvW, if_neg (by decide)] at hlv
 obtain ⟨o, c, rfl, -⟩ := hv.parts
 have HNM : Hid (∀ w1, Below w.heap.size w w1 -> Calls Tryz.prog 222 #[.pointer (some ⟨tb, 0, none⟩), cxN S x, .slice o l.length c] w1 fun e w2 => e = .returned (.int .u64 (crA ts who x l)) /\ ToldP U lo tb f who L S w (crA ts who x l) (.returned (.int .u64 (crA ts who x l))) w2) := by
  intro w1 hb1
  refine (HC.out x L S w1 4 a b o c (h.below hb1) (hv.move2 fun g _ hg hc => ⟨hg, hb1.block g (row_lt hc)⟩) hrel hlv kx).mono ?_
  rintro e w2 ⟨he, L2, S2, r⟩
  exact ⟨he, rfl, L2, S2, (RStep.below h.t hb1).trans r⟩
 generalize cxN S x = cx at *
 generalize crA ts who x l = cr at *
 generalize l.length = ll at *
 clear h hv hrel hlv kx HC
 go_enter Tryz.func203, Tryz.ntmps203
 go_wp2_with (go_at_call 222; refine (HNM.out _ (by repeat (first | exact Below.refl _ _ | refine Below.setCell ?_ (by first | exact Nat.le_refl _ | (simp; done) | (simp; omega)) _ | refine below_drewN ?_ _ | refine Below.drew ?_ | refine Below.alloc ?_ (by first | exact Nat.le_refl _ | (simp; done) | (simp; omega)) _))).mono ?_; rintro e w2 ⟨rfl, hp⟩)
 go_ret
 exact hp
mutual
theorem told_all {U : List ByteArray} {ts : List (Nod × Nod)} {xs : List ByteArray} {lo tb sb : Nat} {f : Nod -> Option Value} {who : Nod -> Nat} (hs : ∀ y, who y < 2 ^ 64) : (t : WayT) -> ToldC U ts xs lo tb sb f who t
 | .mk is a b l => by
  by_cases h3 : is = 3
  ·rw [h3]; exact told_any3 (fun x => inOne_any hs (told_alls hs l))
  ·by_cases h4 : is = 4
   ·rw [h4]; exact told_any4 (fun x => inEach_any hs (told_alls hs l))
   ·exact told_leaf hs h3 h4
theorem told_alls {U : List ByteArray} {ts : List (Nod × Nod)} {xs : List ByteArray} {lo tb sb : Nat} {f : Nod -> Option Value} {who : Nod -> Nat} (hs : ∀ y, who y < 2 ^ 64) : (l : List WayT) -> ∀ t ∈ l, ToldC U ts xs lo tb sb f who t
 | [], _, h => by cases h
 | a :: l, t, h => by
  rcases List.mem_cons.1 h with e | h
  ·rw [e]; exact told_all hs a
  ·exact told_alls hs l t h
end
end Go.Proofs.YtalmoiogbdahcaaGreat
