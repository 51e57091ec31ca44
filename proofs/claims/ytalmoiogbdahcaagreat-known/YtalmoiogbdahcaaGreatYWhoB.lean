import Derived.Test.YtalmoiogbdahcaaGreatYTieM
import Derived.Test.YtalmoiogbdahcaaGreatYSrtB
import Derived.Test.YtalmoiogbdahcaaGreatYTieP
import Derived.Test.YtalmoiogbdahcaaGreatYBackA
import Derived.Deep.CutRange
namespace Go.Proofs.YtalmoiogbdahcaaGreat
set_option maxRecDepth 100000
set_option maxHeartbeats 8000000
open Go.RowKit Go.Shelf
structure WhoR (uss : List Nod) (wb nb g n c tb nu mw : Nat) (uo : Option Addr) (uc : Nat) (cx : Value) (cr : Nat) (w : World) : Prop where
 w0 : w.cell? ⟨wb, 0, none⟩ = some (.pointer (some ⟨tb, 0, none⟩))
 w1 : w.cell? ⟨wb, 1, none⟩ = some (.pointer (some ⟨nb, 0, none⟩))
 n1 : w.cell? ⟨nb, 1, none⟩ = some (.slice (some ⟨g, 0, none⟩) n c)
 g0 : w.cell? ⟨g, 0, none⟩ = some cx
 t3 : w.cell? ⟨tb, 3, none⟩ = some (.pointer (some ⟨nu, 0, none⟩))
 t5 : w.cell? ⟨tb, 5, none⟩ = some (.map (some mw))
 u1 : w.cell? ⟨nu, 1, none⟩ = some (.slice uo uss.length uc)
 us : ∀ k u, uss[k]? = some u -> ∃ ug, uo = some ⟨ug, 0, none⟩ /\ w.cell? ⟨ug, k * 3, none⟩ = some (.string u.k) /\ w.cell? ⟨ug, k * 3 + 1, none⟩ = some (.string u.n) /\ w.cell? ⟨ug, k * 3 + 2, none⟩ = some (.string u.r)
 lk : (Instr.lookup 180 (.map (some mw)) cx false).run Tryz.prog w = .ok (.int .u64 cr) w
theorem whoR_of {U : List ByteArray} {ts : List (Nod × Nod)} {xs : List ByteArray} {lo tb sb : Nat} {f : Nod -> Option Value} {who : Nod -> Nat} {wb nb mb : Nat} {L : TL} {S : TS} {sv : Value} {met : List Nod} {gone : Nat} {w : World} (h : WA U ts xs lo tb sb f who wb nb mb L S sv met gone w) {x0 : Nod} (h0 : met[0]? = some x0) {g c : Nat} {uo : Option Addr} {uc : Nat} (hsv : sv = .slice (some ⟨g, 0, none⟩) met.length c) (hsu : L.su = .slice uo S.uss.length uc) :
  WhoR S.uss wb nb g met.length c tb L.nu L.mw uo uc (cxN S x0) (who x0) w := by
 have hlt : 0 < met.length := (List.getElem?_eq_some_iff.1 h0).1
 obtain ⟨g', c', hsv', hcell⟩ := owns_cell h.m.num.row hlt
 have eg : g = g' := by rw [hsv] at hsv'; have := (Value.slice.inj hsv').1; injection this with this; injection this
 subst eg
 have n1 := row_cell h.m.num.blk (j := 1) rfl
 rw [hsv] at n1
 have u1 := row_cell h.ta.t.us.blk (j := 1) rfl
 rw [hsu] at u1
 refine ⟨row_cell h.blk (j := 0) rfl, row_cell h.blk (j := 1) rfl, n1, hcell 0 _ ?_, row_cell h.ta.t.blk (j := 3) rfl, row_cell h.ta.t.blk (j := 5) rfl, u1, fun k u hu => ?_, h.ta.who (h.m.kn x0 (List.mem_of_getElem? h0))⟩
 ·rw [flat1, List.getElem?_map, h0]; rfl
 ·obtain ⟨ug, uc', he, hc⟩ := owns_cell h.ta.t.us.row (Nat.lt_of_le_of_lt (Nat.zero_le _) (List.getElem?_eq_some_iff.1 hu).1)
  rw [hsu] at he
  obtain ⟨q1, q2, q3⟩ := flat3 hu
  exact ⟨ug, (Value.slice.inj he).1, hc _ _ q1, hc _ _ q2, hc _ _ q3⟩
def outU (uss : List Nod) (cr k : Nat) : List ByteArray := ((List.range k).filterMap fun i => if cr.testBit i then (uss[i]?).map thT else none)
theorem outU_yes {uss : List Nod} {cr k : Nat} {u : Nod} (hu : uss[k]? = some u) (h : cr.testBit k = true) : outU uss cr (k + 1) = outU uss cr k ++ [thT u] := by
 unfold outU
 rw [List.range_succ, List.filterMap_append]
 simp [h, hu]
theorem outU_no {uss : List Nod} {cr k : Nat} (h : cr.testBit k = false) : outU uss cr (k + 1) = outU uss cr k := by
 unfold outU
 rw [List.range_succ, List.filterMap_append]
 simp [h]
theorem outU_len (uss : List Nod) (cr k : Nat) : (outU uss cr k).length <= k := by
 unfold outU
 have := List.length_filterMap_le (fun i => if cr.testBit i then (uss[i]?).map thT else none) (List.range k)
 rw [List.length_range] at this
 exact this
theorem outU_mem (uss : List Nod) (cr : Nat) (s : ByteArray) : s ∈ outU uss cr uss.length ↔ ∃ i u, uss[i]? = some u /\ cr.testBit i = true /\ thT u = s := by
 unfold outU
 rw [List.mem_filterMap]
 constructor
 ·rintro ⟨i, -, h⟩
  split at h
  ·next hb =>
   obtain ⟨u, hu, e⟩ := Option.map_eq_some_iff.1 h
   exact ⟨i, u, hu, hb, e⟩
  ·cases h
 ·rintro ⟨i, u, hu, hb, rfl⟩
  refine ⟨i, List.mem_range.2 (List.getElem?_eq_some_iff.1 hu).1, ?_⟩
  rw [if_pos hb, hu]; rfl
theorem outU_nodup {uss : List Nod} (hi : ∀ (i j : Nat) (u v : Nod), uss[i]? = some u -> uss[j]? = some v -> thT u = thT v -> i = j) (cr k : Nat) : (outU uss cr k).Nodup := by
 unfold outU
 refine List.Pairwise.filterMap _ (R := fun a b : Nat => a ≠ b) ?_ List.nodup_range
 intro a a' hne b hb b' hb' e
 split at hb
 ·split at hb'
  ·obtain ⟨u, hu, e1⟩ := Option.map_eq_some_iff.1 hb
   obtain ⟨v, hv, e2⟩ := Option.map_eq_some_iff.1 hb'
   exact hne (hi a a' u v hu hv (by rw [e1, e2, e]))
  ·cases hb'
 ·cases hb
def whoX (wb nb mb : Nat) (L : TL) (sv : Value) (k : Nat) : Prop := walkX wb nb mb L sv k \/ k = L.mw
structure WhoT (ts : List (Nod × Nod)) (xs : List ByteArray) (uss : List Nod) (x0 : Nod) (X : Nat -> Prop) (w : World) (wb nb g n c tb nu mw : Nat) (uo : Option Addr) (uc : Nat) (cx : Value) (cr : Nat) (w2 : World) : Prop where
 r : ∀ wx, Below w2.heap.size w2 wx -> WhoR uss wb nb g n c tb nu mw uo uc cx cr wx
 sm : cr < 2 ^ 64
 bit : ∀ i, i < 64 -> ∀ u, uss[i]? = some u -> (cr.testBit i = true ↔ Std ts (ruleN xs) u x0)
 fr : Frm X w w2
 nl : n <= 32000000
 np : 0 < n
theorem who_chain (HW : Hid TWayC) {U : List ByteArray} {ts : List (Nod × Nod)} {xs : List ByteArray} (cov : Cov U xs) {lo tb sb : Nat} {f : Nod -> Option Value} {who : Nod -> Nat} {wb nb mb : Nat} {L : TL} {S : TS} {sv : Value} {met : List Nod} {gone : Nat} {w : World} (h : WA U ts xs lo tb sb f who wb nb mb L S sv met gone w) {x0 : Nod} (hg : Gone ts xs x0 met gone)
  (hsm : ∀ y, who y < 2 ^ 64) (hth : ∀ y : Nod, y.isTh = true -> ∀ i, i < 64 -> ((who y).testBit i = true ↔ S.uss[i]? = some y)) (hno : ∀ y : Nod, y.isTh = false -> who y = 0) :
  Calls Tryz.prog 87 #[.pointer (some ⟨wb, 0, none⟩)] w fun e w1 => e = .returned (.tuple #[]) /\ ∃ g n c, w1.cell? ⟨wb, 0, none⟩ = some (.pointer (some ⟨tb, 0, none⟩)) /\ w1.cell? ⟨wb, 1, none⟩ = some (.pointer (some ⟨nb, 0, none⟩)) /\ w1.cell? ⟨nb, 1, none⟩ = some (.slice (some ⟨g, 0, none⟩) n c) /\
   Hid (∀ w1', Below w1.heap.size w1 w1' -> Calls Tryz.prog 129 #[.pointer (some ⟨tb, 0, none⟩), .slice (some ⟨g, 0, none⟩) n c] w1' fun e w2 => e = .returned (.tuple #[]) /\ ∃ nu mw uo uc cx cr, WhoT ts xs S.uss x0 (whoX wb nb mb L sv) w wb nb g n c tb nu mw uo uc cx cr w2) := by
 refine (finish_any (fun h x hx => walkStep_go HW cov h hx) h hg).mono ?_
 rintro e w1 ⟨he, L', S', sv', met', hs, hgo⟩
 have hlt : 0 < met'.length := (List.getElem?_eq_some_iff.1 hgo.first).1
 obtain ⟨g, c, hsv, -⟩ := owns_cell hs.at'.m.num.row hlt
 have n1 := row_cell hs.at'.m.num.blk (j := 1) rfl
 rw [hsv] at n1
 refine ⟨he, g, met'.length, c, row_cell hs.at'.blk (j := 0) rfl, row_cell hs.at'.blk (j := 1) rfl, n1, ?_⟩
 intro w1' hb1
 have hs' := hs.trans (WStep.below hs.at' hb1)
 have hA := hs'.at'
 have hrow : CxRow w1' (.slice (some ⟨g, 0, none⟩) met'.length c) (met'.map (cxN S')) := by
  have := hA.m.num.row
  rw [hsv, flat1] at this
  exact owns_cxrow (by rw [List.length_map]; exact this)
 have hu : S'.uss = S.uss := hs'.uss
 refine (settle_any HW cov hA.ta hrow hA.m.kn hA.m.num.nd hA.nodes ?_ ?_ hsm (fun y hy i hi => by rw [hu]; exact hth y hy i hi) hno).mono ?_
 ·intro x hx y hy
  exact (hgo.all y).2 (Rch.on ((hgo.all x).1 hx) hy)
 ·intro g' n' c' e'
  obtain ⟨-, -, cur, q⟩ := owns_lt hA.m.num.row g' (by rw [hsv, e']; rfl)
  exact ⟨cur, q⟩
 ·rintro e2 w2 ⟨he2, who', L2, S2, hG, hsm2, hbit⟩
  have hM := hA.m.gstep hA.ta hG
  have hwn := hA.walk_not
  have hblk : w2.heap[wb]? = some (.cells [Value.pointer (some ⟨tb, 0, none⟩), .pointer (some ⟨nb, 0, none⟩), .int .i64 met'.length].toArray 139 (0, 0)) := by
   rw [hG.fr.block wb (row_lt hA.blk) ?_]
   ·exact hA.blk
   ·rintro (e | e)
    ·exact hwn.1 e
    ·obtain ⟨m, hm, -⟩ := hA.ta.t.wh
     obtain ⟨es, cl, q, -⟩ := hm
     rw [← e, hA.blk] at q
     injection q with q; cases q
  have hW2 : WA U ts xs lo tb sb f who' wb nb mb L2 S2 sv' met' met'.length w2 := ⟨hG.at', hM, hblk, hA.nodes, Nat.le_refl _⟩
  obtain ⟨uo, uc, hsu⟩ := owns_form hW2.ta.t.us.row
  have hu2 : S2.uss = S.uss := hG.uss.trans hu
  have hl1 := hs'.loc
  refine ⟨he2, L2.nu, L2.mw, uo, uc, cxN S2 x0, who' x0, ⟨fun wx hb => ?_, hsm2 x0, fun i hi u hiu => ?_, ?_, met_len hA.ta.t.ok hA.m.num.nd hA.m.kn, hlt⟩⟩
  ·rw [← hu2]
   exact whoR_of (hW2.below hb) hgo.first hsv hsu
  ·exact hbit x0 (List.mem_of_getElem? hgo.first) i hi u (by rw [hu]; exact hiu)
  ·refine (hs'.fr.mono fun _ _ e => Or.inl e).trans hG.fr fun j hj e => ?_
   rcases e with (e | e | e) | e
   ·rw [hl1] at e; exact Or.inl (Or.inl (Or.inl e))
   ·rw [hl1] at e; exact Or.inl (Or.inl (Or.inr (Or.inl e)))
   ·rcases hs'.ownR j e with e | e
    ·exact Or.inl (Or.inl (Or.inr (Or.inr e)))
    ·omega
   ·rw [hl1] at e; exact Or.inr e
structure WhoL (uss : List Nod) (cr : Nat) (w2 : World) (k : Nat) (v : Value) (wr : World) : Prop where
 b : Below w2.heap.size w2 wr
 row : wr.ownsRow w2.heap.size 9 1 v (outU uss cr k).length (strV (outU uss cr k))
theorem WhoL.next {uss : List Nod} {cr : Nat} {w2 : World} {k : Nat} {v : Value} {wr : World} (h : WhoL uss cr w2 k v wr) (hk : k <= 50) {u : Nod} (hu : uss[k]? = some u) (hb : cr.testBit k = true) {w1 : World} (hb1 : Below wr.heap.size wr w1) :
  ∃ x c w3, (Builtin.append_ #[28, 28] 28 #[v, .slice (some ⟨w1.heap.size, 0, none⟩) 1 1]).run Tryz.prog (w1.alloc (.cells #[.string (thT u)] 9)) = .ok (.slice x ((outU uss cr k).length + 1) c) w3 /\ WhoL uss cr w2 (k + 1) (.slice x ((outU uss cr k).length + 1) c) w3 := by
 have o1 : w1.ownsRow w2.heap.size 9 1 v (outU uss cr k).length (strV (outU uss cr k)) := owns_to h.row fun g hg => hb1.block g (owns_lt h.row g hg).1
 have hl := outU_len uss cr k
 have z1 := h.b.size
 have z2 := hb1.size
 obtain ⟨v', w3, hr, ho, hg, hn⟩ := app_at Tryz.underlying28 Tryz.infoStr rfl (by decide) (by decide) w1 w2.heap.size v _ _ [.string (thT u)] rfl (by intro u hu; simp at hu; rw [hu]; rfl) o1 (by omega) (by omega)
 obtain ⟨x, c, rfl⟩ := owns_form ho
 refine ⟨x, c, w3, hr, (h.b.trans (hb1.mono z1)).grown hg (by omega) (fun j hj => (owns_lt o1 j hj).2.1), ?_⟩
 rw [outU_yes hu hb, List.length_append]
 have e : strV (outU uss cr k ++ [thT u]) = strV (outU uss cr k) ++ [.string (thT u)] := by unfold strV; rw [List.map_append]; rfl
 rw [e]
 exact ho
theorem who_any (HW : Hid TWayC) {U : List ByteArray} {ts : List (Nod × Nod)} {xs : List ByteArray} (cov : Cov U xs) {lo tb sb : Nat} {f : Nod -> Option Value} {who : Nod -> Nat} {wb nb mb : Nat} {L : TL} {S : TS} {sv : Value} {met : List Nod} {gone : Nat} {w : World} (h : WA U ts xs lo tb sb f who wb nb mb L S sv met gone w) {x0 : Nod} (hg : Gone ts xs x0 met gone)
  (hsm : ∀ y, who y < 2 ^ 64) (hth : ∀ y : Nod, y.isTh = true -> ∀ i, i < 64 -> ((who y).testBit i = true ↔ S.uss[i]? = some y)) (hno : ∀ y : Nod, y.isTh = false -> who y = 0) (hul : S.uss.length <= 50) (hsz : ∀ u ∈ S.uss, u.k.size + 1 + u.n.size <= maxLen) (hinj : ∀ (i j : Nat) (u v : Nod), S.uss[i]? = some u -> S.uss[j]? = some v -> thT u = thT v -> i = j) :
  Calls Tryz.prog 83 #[.pointer (some ⟨wb, 0, none⟩)] w fun e w' => ∃ zs v, e = .returned v /\ Sorted zs /\ (∀ s, s ∈ zs ↔ ∃ u ∈ S.uss, Std ts (ruleN xs) u x0 /\ thT u = s) /\ zs.length <= 50 /\ w'.ownsRow w.heap.size 9 1 v zs.length (strV zs) /\ Frm (whoX wb nb mb L sv) w w' := by
 have HCH := who_chain HW cov h hg hsm hth hno
 obtain ⟨uss, huss⟩ : ∃ uss, S.uss = uss := ⟨_, rfl⟩
 rw [huss] at hul hsz hinj HCH ⊢
 have HSZ : Hid (∀ u ∈ uss, u.k.size + 1 + u.n.size <= maxLen) := hsz
 have HIN : Hid (∀ (i j : Nat) (u v : Nod), uss[i]? = some u -> uss[j]? = some v -> thT u = thT v -> i = j) := hinj
 generalize whoX wb nb mb L sv = X at *
 obtain ⟨nn, hnn⟩ : ∃ nn, uss.length = nn := ⟨_, rfl⟩
 have HNN : Hid (uss.length = nn) := hnn
 rw [hnn] at hul
 clear h hg hsm hth hno hsz hinj huss hnn HW cov
 go_enter Tryz.func83, Tryz.ntmps83
 go_wp2_with (go_at_call 87; refine HCH.mono ?_; rintro e w1 ⟨rfl, g, n, c, c0, c1, n1, HST⟩; clear HCH)
 go_cut [] from 9 to 20 (fun wx => ∃ nu mw uo uc cx cr, WhoT ts xs uss x0 X w wb nb g n c tb nu mw uo uc cx cr wx)
 case first =>
  go_region_with (go_at_call 129; refine (HST.out _ (by repeat (first | exact Below.refl _ _ | refine Below.setCell ?_ (by first | exact Nat.le_refl _ | (simp; done) | (simp; omega)) _ | refine below_drewN ?_ _ | refine Below.drew ?_ | refine Below.alloc ?_ (by first | exact Nat.le_refl _ | (simp; done) | (simp; omega)) _))).mono ?_; rintro e w2 ⟨rfl, hT⟩; have HT : Hid (∃ nu mw uo uc cx cr, WhoT ts xs uss x0 X w wb nb g n c tb nu mw uo uc cx cr w2) := hT; clear hT)
  all_goals (go_wp2_with fail; go_meet)
  all_goals exact HT.out
 case rest =>
  obtain ⟨nu, mw, uo, uc, cx, cr, hT⟩ := hcut
  have HT : Hid (WhoT ts xs uss x0 X w wb nb g n c tb nu mw uo uc cx cr wc) := hT
  have hnl := hT.nl
  have hn0 := hT.np
  obtain ⟨d0, d1, dn, dg, d3, d5, du, -, -⟩ := hT.r wc (Below.refl _ _)
  rw [HNN.out] at du
  clear hT HST c0 c1 n1
  go_wp2
  have HL0 : Hid (WhoL uss cr wc 0 (.slice none 0 0) wc) := ⟨Below.refl _ _, World.ownsRow_nil _ _ _ _⟩
  go_loopw [4, 41] (fun v i wr => ∃ (k : Nat) (x : Option Addr) (m c1 : Nat), v = .slice x m c1 /\ k <= nn /\ i = .int .i64 k /\ WhoL uss cr wc k (.slice x m c1) wr) (fun _ i _ => nn - (intOf i).toNat)
  case atStart => exact ⟨0, none, 0, 0, rfl, Nat.zero_le _, rfl, HL0.out⟩
  case round =>
   obtain ⟨k, x, m, c1, rfl, hk, rfl, hL⟩ := hrel
   have HL : Hid (WhoL uss cr wc k (.slice x m c1) wr) := hL
   clear hL HL0
   by_cases hlt : k < nn
   ·obtain ⟨u, hu⟩ : ∃ u, uss[k]? = some u := ⟨_, List.getElem?_eq_getElem (by have := HNN.out; omega)⟩
    obtain ⟨-, -, -, -, -, -, -, fus, -⟩ := HT.out.r wr HL.out.b
    obtain ⟨ug, rfl, q1, q2, q3⟩ := fus k u hu
    have hbA : Below wr.heap.size wr (wr.alloc (.cells #[.string u.k, .string u.n, .string u.r] 75)) := by repeat (first | exact Below.refl _ _ | refine Below.setCell ?_ (by first | exact Nat.le_refl _ | (simp; done) | (simp; omega)) _ | refine below_drewN ?_ _ | refine Below.drew ?_ | refine Below.alloc ?_ (by first | exact Nat.le_refl _ | (simp; done) | (simp; omega)) _)
    obtain ⟨f0, -, -, -, -, f5, -, -, flk⟩ := HT.out.r _ (HL.out.b.trans (hbA.mono HL.out.b.size))
    have hhs := hasBit_any cr k HT.out.sm (by omega) (wr.alloc (.cells #[.string u.k, .string u.n, .string u.r] 75))
    have htt := thingText_any u (HSZ.out u (List.mem_of_getElem? hu)) (wr.alloc (.cells #[.string u.k, .string u.n, .string u.r] 75))
    clear fus
    by_cases hb : cr.testBit k = true
    ·rw [hb] at hhs
     obtain ⟨x', c', w3, hap, hL3⟩ := HL.out.next (by omega) hu hb (w1 := (wr.alloc (.cells #[.string u.k, .string u.n, .string u.r] 75)).alloc (.cells #[.string u.k, .string u.n, .string u.r] 75)) (by repeat (first | exact Below.refl _ _ | refine Below.setCell ?_ (by first | exact Nat.le_refl _ | (simp; done) | (simp; omega)) _ | refine below_drewN ?_ _ | refine Below.drew ?_ | refine Below.alloc ?_ (by first | exact Nat.le_refl _ | (simp; done) | (simp; omega)) _))
     have hz : ((wr.alloc (.cells #[.string u.k, .string u.n, .string u.r] 75)).alloc (.cells #[.string u.k, .string u.n, .string u.r] 75)).heap.size = wr.heap.size + 1 + 1 := by simp
     rw [hz] at hap
     have HL3 : Hid (WhoL uss cr wc (k + 1) (.slice x' ((outU uss cr k).length + 1) c') w3) := hL3
     generalize (outU uss cr k).length + 1 = mm at *
     clear hL3 hz hbA hu
     generalize thT u = T at *
     go_wp2_with (first | (go_at_call 130; refine hhs.mono ?_; rintro e w4 ⟨rfl, hw4⟩; subst w4) | (go_at_call 94; refine htt.mono ?_; rintro e w4 ⟨rfl, hw4⟩; subst w4) | (at_builtin; refine wpList_app_run rfl (.tmp 57) (.tmp 60) 28 rfl _ _ _ rfl rfl hap ?_))
     go_roundw
     case rel => exact ⟨k + 1, x', mm, c', rfl, by omega, by go_num, HL3.out⟩
     case measure => simp [intOf]; omega
    ·have hb : cr.testBit k = false := by simpa using hb
     rw [hb] at hhs
     have HL3 : Hid (WhoL uss cr wc (k + 1) (.slice x m c1) (wr.alloc (.cells #[.string u.k, .string u.n, .string u.r] 75))) := by
      refine ⟨HL.out.b.trans (hbA.mono HL.out.b.size), ?_⟩
      rw [outU_no hb]
      exact owns_to HL.out.row fun g hg => hbA.block g (owns_lt HL.out.row g hg).1
     clear hbA hu htt
     go_wp2_with (go_at_call 130; refine hhs.mono ?_; rintro e w4 ⟨rfl, hw4⟩; subst w4)
     go_roundw
     case rel => exact ⟨k + 1, x, m, c1, rfl, by omega, by go_num, HL3.out⟩
     case measure => simp [intOf]; omega
   ·obtain rfl : k = nn := by omega
    have hm : m = (outU uss cr k).length := by
     obtain ⟨x2, c2, e⟩ := owns_form HL.out.row
     exact (Value.slice.inj e).2.1
    have HSO : Hid (Calls Tryz.prog 131 #[.slice x m c1] wr fun e w' => e = .returned (.tuple #[]) /\ ∃ zs v, (.slice x m c1 : Value) = v /\ Sorted zs /\ (∀ s, s ∈ zs ↔ ∃ u ∈ uss, Std ts (ruleN xs) u x0 /\ thT u = s) /\ zs.length <= 50 /\ w'.ownsRow w.heap.size 9 1 v zs.length (strV zs) /\ Frm X w w') := by
     have hlen := outU_len uss cr k
     refine (sort_any wr wc.heap.size _ _ HL.out.row (outU_nodup HIN.out cr k) (by omega)).mono ?_
     rintro e w' ⟨he, zs, hmem, hzl, hso, hrow, hgr⟩
     refine ⟨he, zs, _, rfl, hso, fun s => ?_, by omega, owns_base hrow HT.out.fr.size, ?_⟩
     ·rw [hmem s, ← HNN.out, outU_mem]
      constructor
      ·rintro ⟨i, u, hu, hb, e⟩
       have hi := (List.getElem?_eq_some_iff.1 hu).1
       have := HNN.out
       exact ⟨u, List.mem_of_getElem? hu, (HT.out.bit i (by omega) u hu).1 hb, e⟩
      ·rintro ⟨u, hu, hs, e⟩
       obtain ⟨i, hi⟩ := List.mem_iff_getElem?.1 hu
       have hi2 := (List.getElem?_eq_some_iff.1 hi).1
       have := HNN.out
       exact ⟨i, u, hi, (HT.out.bit i (by omega) u hi).2 hs, e⟩
     ·have hz := HT.out.fr.size
      have hz2 := HL.out.b.size
      refine (HT.out.fr.trans (Frm.of_below (X := fun _ => False) HL.out.b) (fun _ _ e => False.elim e)).trans (Frm.of_grown hgr (X := fun j => (Value.slice x m c1).ownBlock = some j) (fun j e => e)) fun j hj e => ?_
      have := (owns_lt HL.out.row j e).2.1
      omega
    clear hlt hm
    go_wp2_with (go_at_call 131; refine HSO.out.mono ?_; rintro e w3 ⟨rfl, hp⟩)
    go_ret
    obtain ⟨zs, v, rfl, h1⟩ := hp
    exact ⟨zs, _, rfl, h1⟩
theorem indexStr_any (w : World) (base : Nat) (v : Value) (zs : List ByteArray) (x : ByteArray) (hown : w.ownsRow base 9 1 v zs.length (strV zs)) (hl : zs.length <= 1000) :
  Calls Tryz.prog 143 #[v, .string x] w fun e w' => w' = w /\ ∃ i : Int, e = .returned (.int .i64 i) /\ (0 <= i ↔ x ∈ zs) /\ -1 <= i := by
 have HC : Hid (∀ k z, zs[k]? = some z -> ∃ g, (∃ c, v = .slice (some ⟨g, 0, none⟩) zs.length c) /\ w.cell? ⟨g, k, none⟩ = some (.string z)) := by
  intro k z hz
  obtain ⟨g, c, e, hc⟩ := owns_cell hown (Nat.lt_of_le_of_lt (Nat.zero_le _) (List.getElem?_eq_some_iff.1 hz).1)
  refine ⟨g, ⟨c, e⟩, hc k _ ?_⟩
  unfold strV
  rw [List.getElem?_map, hz]; rfl
 obtain ⟨o, c, rfl⟩ := owns_form hown
 obtain ⟨nn, hnn⟩ : ∃ nn, zs.length = nn := ⟨_, rfl⟩
 have HNN : Hid (zs.length = nn) := hnn
 rw [hnn] at hl HC ⊢
 clear hown hnn
 go_enter Tryz.func143, Tryz.ntmps143
 go_wp2
 go_loop [8] (fun i => ∃ k : Nat, i = .int .i64 k /\ k <= nn /\ ∀ (j : Nat) (z : ByteArray), j < k -> zs[j]? = some z -> x ≠ z) (fun i => nn - (intOf i).toNat)
 case atStart => exact ⟨0, rfl, Nat.zero_le _, fun j z hj => by omega⟩
 case round =>
  obtain ⟨k, rfl, hk, hI⟩ := hrel
  have HI : Hid (∀ (j : Nat) (z : ByteArray), j < k -> zs[j]? = some z -> x ≠ z) := hI
  clear hI
  by_cases hlt : k < nn
  ·obtain ⟨z, hz⟩ : ∃ z, zs[k]? = some z := ⟨_, List.getElem?_eq_getElem (by have := HNN.out; omega)⟩
   obtain ⟨g, ⟨c', e⟩, hc⟩ := HC.out k z hz
   have e1 := (Value.slice.inj e).1
   subst e1
   have HZ : Hid (zs[k]? = some z) := hz
   clear e hz
   by_cases hx : x = z
   ·subst hx
    go_wp2
    go_ret
    exact ⟨rfl, (k : Int), rfl, ⟨fun _ => List.mem_of_getElem? HZ.out, fun _ => by omega⟩, by omega⟩
   ·have hxf : (x.toList == z.toList) = false := by rw [byte_eq]; exact decide_eq_false hx
    go_wp2
    go_round
    case rel =>
     refine ⟨k + 1, by go_num, by omega, fun j z' hj hz' => ?_⟩
     by_cases ej : j = k
     ·subst ej
      have := HZ.out.symm.trans hz'
      injection this with this
      rw [← this]; exact hx
     ·exact HI.out j z' (by omega) hz'
    case measure => simp [intOf]; omega
  ·obtain rfl : k = nn := by omega
   go_wp2
   go_ret
   refine ⟨rfl, -1, rfl, ⟨fun h => absurd h (by decide), fun hm => ?_⟩, by decide⟩
   obtain ⟨j, hj⟩ := List.mem_iff_getElem?.1 hm
   exact absurd rfl (HI.out j x (by have := (List.getElem?_eq_some_iff.1 hj).1; have := HNN.out; omega) hj)
theorem containsStr_any (w : World) (base : Nat) (v : Value) (zs : List ByteArray) (x : ByteArray) (hown : w.ownsRow base 9 1 v zs.length (strV zs)) (hl : zs.length <= 1000) :
  Calls Tryz.prog 93 #[v, .string x] w fun e w' => ∃ b, e = .returned (.bool b) /\ (b = true ↔ x ∈ zs) /\ w' = w := by
 have hi := indexStr_any w base v zs x hown hl
 obtain ⟨o, c, rfl⟩ := owns_form hown
 clear hown hl
 generalize zs.length = nn at *
 go_enter Tryz.func93, Tryz.ntmps93
 go_wp2_with (go_at_call 143; refine hi.mono ?_; rintro e w1 ⟨hw1, i, rfl, hiff, hlo⟩; subst w1)
 go_ret
 exact ⟨_, rfl, by rw [← hiff]; simp, rfl⟩
theorem has_walk (HW : Hid TWayC) {U : List ByteArray} {ts : List (Nod × Nod)} {xs : List ByteArray} (cov : Cov U xs) {lo tb sb : Nat} {f : Nod -> Option Value} {who : Nod -> Nat} {wb nb mb : Nat} {L : TL} {S : TS} {sv : Value} {met : List Nod} {gone : Nat} {w : World} (h : WA U ts xs lo tb sb f who wb nb mb L S sv met gone w) {x0 : Nod} (hg : Gone ts xs x0 met gone)
  (hsm : ∀ y, who y < 2 ^ 64) (hth : ∀ y : Nod, y.isTh = true -> ∀ i, i < 64 -> ((who y).testBit i = true ↔ S.uss[i]? = some y)) (hno : ∀ y : Nod, y.isTh = false -> who y = 0) (hul : S.uss.length <= 50) (hsz : ∀ u ∈ S.uss, u.k.size + 1 + u.n.size <= maxLen) (hinj : ∀ (i j : Nat) (u v : Nod), S.uss[i]? = some u -> S.uss[j]? = some v -> thT u = thT v -> i = j)
  (y : Nod) (hy : y.k.size + 1 + y.n.size <= maxLen) :
  Calls Tryz.prog 48 #[.pointer (some ⟨wb, 0, none⟩), .agg #[.string y.k, .string y.n, .string y.r]] w fun e w' => ∃ b, e = .returned (.bool b) /\ (b = true ↔ ∃ u ∈ S.uss, Std ts (ruleN xs) u x0 /\ thT u = thT y) /\ Frm (whoX wb nb mb L sv) w w' := by
 have HWH : Hid (∀ w1, Below w.heap.size w w1 -> w1.heap[w.heap.size]? = some (.cells [Value.string y.k, .string y.n, .string y.r].toArray 75 (0, 0)) -> Calls Tryz.prog 83 #[.pointer (some ⟨wb, 0, none⟩)] w1 fun e w2 => ∃ o n c, e = .returned (.slice o n c) /\ w2.cell? ⟨w.heap.size, 0, none⟩ = some (.string y.k) /\ w2.cell? ⟨w.heap.size, 1, none⟩ = some (.string y.n) /\ w2.cell? ⟨w.heap.size, 2, none⟩ = some (.string y.r) /\ Hid (∀ w3, Below w2.heap.size w2 w3 -> Calls Tryz.prog 93 #[.slice o n c, .string (thT y)] w3 fun e w4 => ∃ b, e = .returned (.bool b) /\ (b = true ↔ ∃ u ∈ S.uss, Std ts (ruleN xs) u x0 /\ thT u = thT y) /\ Frm (whoX wb nb mb L sv) w w4)) := by
  intro w1 hb1 hblk
  refine (who_any HW cov (h.below hb1) hg hsm hth hno hul hsz hinj).mono ?_
  rintro e w2 ⟨zs, v, he, -, hmem, hzl, hrow, hfr⟩
  obtain ⟨o, c, rfl⟩ := owns_form hrow
  have hblk2 : w2.heap[w.heap.size]? = some (.cells [Value.string y.k, .string y.n, .string y.r].toArray 75 (0, 0)) := by
   rw [hfr.block _ (row_lt hblk) fun e => ?_]
   ·exact hblk
   have h1 := h.below hb1
   rcases e with (e | e | e) | e
   ·rcases h1.ta.t.rl.kind e hblk with e | e <;> revert e <;> decide
   ·rcases h1.m.num.kind e hblk with e | e <;> revert e <;> decide
   ·have e : w.heap.size = wb := e
    have := row_lt h.blk; omega
   ·have e : w.heap.size = L.mw := e
    have := h.ta.maps_lt (k := L.mw) (by simp); omega
  refine ⟨o, _, c, he, row_cell hblk2 (j := 0) rfl, row_cell hblk2 (j := 1) rfl, row_cell hblk2 (j := 2) rfl, ?_⟩
  ·intro w3 hb3
   refine (containsStr_any w3 w1.heap.size _ zs (thT y) (owns_to hrow fun g hg => hb3.block g (owns_lt hrow g hg).1) (by omega)).mono ?_
   rintro e w4 ⟨b, rfl, hb, hw4⟩
   subst w4
   refine ⟨b, rfl, by rw [hb, hmem], ?_⟩
   exact ((Frm.of_below hb1).trans hfr (fun _ _ e => e)).trans (Frm.of_below (X := fun _ => False) hb3) (fun _ _ e => False.elim e)
 have htt := fun w1 => thingText_any y hy w1
 generalize whoX wb nb mb L sv = X at *
 clear h hg hsm hth hno hul hsz hinj hy cov HW
 go_enter Tryz.func48, Tryz.ntmps48
 go_wp2
 have hA : (w.alloc (.cells #[.string y.k, .string y.n, .string y.r] 75)).drew.heap[w.heap.size]? = some (.cells [Value.string y.k, .string y.n, .string y.r].toArray 75 (0, 0)) := alloc_new w [Value.string y.k, .string y.n, .string y.r] _
 go_region_with (first | (go_at_call 83; refine (HWH.out _ (by repeat (first | exact Below.refl _ _ | refine Below.setCell ?_ (by first | exact Nat.le_refl _ | (simp; done) | (simp; omega)) _ | refine below_drewN ?_ _ | refine Below.drew ?_ | refine Below.alloc ?_ (by first | exact Nat.le_refl _ | (simp; done) | (simp; omega)) _)) hA).mono ?_; rintro e w2 ⟨o, n, c, rfl, k0, k1, k2, HCO⟩) | (go_at_call 94; refine (htt _).mono ?_; rintro e w3 ⟨rfl, hw3⟩; subst w3) | (go_at_call 93; refine (HCO.out _ (by repeat (first | exact Below.refl _ _ | refine Below.setCell ?_ (by first | exact Nat.le_refl _ | (simp; done) | (simp; omega)) _ | refine below_drewN ?_ _ | refine Below.drew ?_ | refine Below.alloc ?_ (by first | exact Nat.le_refl _ | (simp; done) | (simp; omega)) _))).mono ?_; rintro e w4 ⟨b, rfl, hb, hf⟩))
 all_goals go_wp2
 all_goals go_ret
 all_goals exact ⟨b, rfl, hb, hf⟩
end Go.Proofs.YtalmoiogbdahcaaGreat
