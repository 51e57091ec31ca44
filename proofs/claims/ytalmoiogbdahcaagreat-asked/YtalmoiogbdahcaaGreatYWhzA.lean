import Derived.Test.YtalmoiogbdahcaaGreatYRefE
import Derived.Test.YtalmoiogbdahcaaGreatYRefS
import Derived.Test.YtalmoiogbdahcaaGreatYStpE
import Derived.Deep.LoopGhost
namespace Go.Proofs.YtalmoiogbdahcaaGreat
set_option maxRecDepth 100000
set_option maxHeartbeats 8000000
open Go.RowKit Go.Shelf
theorem made_sl (n : Nat) : madeCells #[Value.slice none 0 0] n = (List.replicate n (Value.slice none 0 0)).toArray := by
 apply Array.ext
 ·simp [madeCells]
 ·intro i h1 h2
  simp [madeCells, Nat.mod_one]
structure WhS (xs now : List ByteArray) (w : World) (no : Option Addr) (nc : Nat) (met : List Nod) (wg : Nat) (vs : List Value) (whoL : List (List ByteArray)) (wr : World) : Prop where
 row : wr.heap[wg]? = some (.cells vs.toArray 28 (0, 0))
 lenv : vs.length = met.length
 each : ∀ (i : Nat) (l : List ByteArray), whoL[i]? = some l -> ∃ x c, vs[i]? = some (Value.slice x l.length c) /\ StrT wr (.slice x l.length c) l
 low : w.heap.size <= wg
 nodes : wr.ownsRow w.heap.size 9 1 (.slice no met.length nc) met.length (strV (met.map txT))
 inv : WRnd xs now met whoL
 below : Below w.heap.size w wr
theorem WhS.later {xs now : List ByteArray} {w : World} {no : Option Addr} {nc : Nat} {met : List Nod} {wg : Nat} {vs : List Value} {whoL : List (List ByteArray)} {wr wr' : World} (h : WhS xs now w no nc met wg vs whoL wr) (hb : Below wr.heap.size wr wr') : WhS xs now w no nc met wg vs whoL wr' :=
 ⟨(hb.block wg (row_lt h.row)).trans h.row, h.lenv, fun i l hl => by
   obtain ⟨x, c, h1, h2⟩ := h.each i l hl
   exact ⟨x, c, h1, h2.move fun g cur hg => hb.block g (row_lt hg)⟩, h.low, owns_below h.nodes hb, h.inv, h.below.trans (hb.mono h.below.size)⟩
theorem WhS.byC {xs now : List ByteArray} {w : World} {no : Option Addr} {nc : Nat} {met : List Nod} {wg : Nat} {vs : List Value} {whoL : List (List ByteArray)} {wr : World} (h : WhS xs now w no nc met wg vs whoL wr) {tv : Value} (ht : StrsAt w tv now) : ByC now met whoL tv (.slice no met.length nc) (.slice (some ⟨wg, 0, none⟩) met.length met.length) wr := by
 refine ⟨strs_below ht h.below, owns_strs (xs := met.map txT) (by rw [List.length_map]; exact h.nodes), wg, met.length, by rw [h.inv.len], fun i l hl => ?_⟩
 obtain ⟨x, c, h1, h2⟩ := h.each i l hl
 exact ⟨x, c, row_cell h.row h1, h2.strs⟩
theorem WhS.byK {xs now : List ByteArray} (ok : DocOk xs now) {w : World} {no : Option Addr} {nc : Nat} {met : List Nod} {wg : Nat} {vs : List Value} {whoL : List (List ByteArray)} {wr : World} (h : WhS xs now w no nc met wg vs whoL wr) (hml : met.length <= 300000) : ByK now met whoL := by
 have key : ∀ l ∈ whoL, ∃ i, whoL.getD i [] = l := fun l hl => by
  obtain ⟨i, hi⟩ := List.mem_iff_getElem?.1 hl
  exact ⟨i, by rw [List.getD_eq_getElem?_getD, hi]; rfl⟩
 refine ⟨ok.ht, ok.nl, hml, h.inv.len, fun l hl => ?_, fun l hl => ?_⟩
 ·obtain ⟨i, rfl⟩ := key l hl
  exact (h.inv.so i).2
 ·obtain ⟨i, rfl⟩ := key l hl
  exact Nat.le_trans (nodup_sub_len _ _ (sorted_nodup (h.inv.so i).1) (h.inv.so i).2) (usT_len ok.nl)
theorem WhS.cell {xs now : List ByteArray} {w : World} {no : Option Addr} {nc : Nat} {met : List Nod} {wg : Nat} {vs : List Value} {whoL : List (List ByteArray)} {wr : World} (h : WhS xs now w no nc met wg vs whoL wr) {i : Nat} (hi : i < met.length) : ∃ x c, wr.cell? ⟨wg, i, none⟩ = some (.slice x (whoL.getD i []).length c) /\ StrT wr (.slice x (whoL.getD i []).length c) (whoL.getD i []) := by
 have hil : i < whoL.length := by rw [h.inv.len]; exact hi
 obtain ⟨x, c, h1, h2⟩ := h.each i whoL[i] (List.getElem?_eq_getElem hil)
 have e : whoL.getD i [] = whoL[i] := by rw [List.getD_eq_getElem?_getD, List.getElem?_eq_getElem hil]; rfl
 rw [e]
 exact ⟨x, c, row_cell h.row h1, h2⟩
theorem WhS.set {xs now : List ByteArray} {w : World} {no : Option Addr} {nc : Nat} {met : List Nod} {wg : Nat} {vs : List Value} {whoL : List (List ByteArray)} {wr : World} (h : WhS xs now w no nc met wg vs whoL wr) {i : Nat} (hi : i < met.length) {out : List ByteArray} {o : Option Addr} {c : Nat} (ho : StrT wr (.slice o out.length c) out) (hinv : WRnd xs now met (whoL.set i out)) :
  WhS xs now w no nc met wg (vs.set i (.slice o out.length c)) (whoL.set i out) (wr.setCell ⟨wg, i, none⟩ (.slice o out.length c)) := by
 have hoth : ∀ (g : Nat) (cur : List Value), wr.heap[g]? = some (.cells cur.toArray 9 (0, 0)) -> (wr.setCell ⟨wg, i, none⟩ (.slice o out.length c)).heap[g]? = wr.heap[g]? := by
  intro g cur hg
  refine set_other wr wg i _ g ?_
  intro e
  subst e
  rw [h.row] at hg
  injection hg with hg
  injection hg with _ hg
  revert hg; decide
 refine ⟨row_set h.row i _, by rw [List.length_set]; exact h.lenv, fun j l hl => ?_, h.low, ?_, hinv, h.below.setCell (p := ⟨wg, i, none⟩) h.low _⟩
 ·rw [List.getElem?_set] at hl
  rw [List.getElem?_set]
  split at hl
  ·rename_i e
   subst e
   split at hl
   ·injection hl with hl
    subst hl
    rw [if_pos rfl, if_pos (by rw [h.lenv]; exact hi)]
    exact ⟨o, c, rfl, ho.move hoth⟩
   ·cases hl
  ·rename_i e
   rw [if_neg e]
   obtain ⟨x, c, h1, h2⟩ := h.each j l hl
   exact ⟨x, c, h1, h2.move hoth⟩
 ·refine owns_to h.nodes fun g hg => ?_
  obtain ⟨-, -, cur, hc⟩ := owns_lt h.nodes g hg
  exact hoth g cur.toList (by rw [Array.toArray_toList]; exact hc)
theorem WhS.start {xs now : List ByteArray} {w : World} {no : Option Addr} {nc : Nat} {met : List Nod} {w1 : World} (hn : w1.ownsRow w.heap.size 9 1 (.slice no met.length nc) met.length (strV (met.map txT))) (hb : Below w.heap.size w w1) :
  WhS xs now w no nc met w1.heap.size (List.replicate met.length (.slice none 0 0)) (List.replicate met.length []) (w1.alloc (.cells (madeCells #[.slice none 0 0] met.length) 28)) := by
 have e : madeCells #[.slice none 0 0] met.length = (List.replicate met.length (Value.slice none 0 0)).toArray := by
  exact made_sl _
 refine ⟨by rw [e]; exact alloc_new w1 _ _, by simp, fun i l hl => ?_, hb.size, owns_below hn ((Below.refl _ _).alloc (Nat.le_refl _) _), WRnd.start met, hb.alloc hb.size _⟩
 rw [List.getElem?_replicate] at hl
 split at hl
 ·rename_i hi
  injection hl with hl
  subst hl
  exact ⟨none, 0, by rw [List.getElem?_replicate, if_pos hi]; rfl, Or.inl ⟨rfl, rfl⟩⟩
 ·cases hl
def FixW (xs now : List ByteArray) (met : List Nod) (whoL : List (List ByteArray)) (k : Nat) : Prop := ∀ i y, i < k -> met[i]? = some y -> (ruleL (ruleOfs xs) (txT y)).size = 0 \/ ∀ s, tellF now (txT y) (Wof met whoL) (ruleL (ruleOfs xs) (txT y)).size (ruleL (ruleOfs xs) (txT y)) s -> s ∈ whoL.getD i []
theorem FixW.next {xs now : List ByteArray} {met : List Nod} {whoL : List (List ByteArray)} {k : Nat} (h : FixW xs now met whoL k) {y : Nod} (hy : met[k]? = some y) (hk : (ruleL (ruleOfs xs) (txT y)).size = 0 \/ ∀ s, tellF now (txT y) (Wof met whoL) (ruleL (ruleOfs xs) (txT y)).size (ruleL (ruleOfs xs) (txT y)) s -> s ∈ whoL.getD k []) : FixW xs now met whoL (k + 1) := by
 intro i z hi hz
 by_cases e : i = k
 ·subst e
  rw [hy] at hz
  injection hz with hz
  rw [← hz]; exact hk
 ·exact h i z (by omega) hz
structure WhI (xs now : List ByteArray) (w : World) (no : Option Addr) (nc : Nat) (met : List Nod) (wg : Nat) (g0 k : Nat) (mb : Bool) (vs : List Value) (whoL : List (List ByteArray)) (wr : World) : Prop where
 s : WhS xs now w no nc met wg vs whoL wr
 le : gapT whoL <= g0
 lt : mb = true -> gapT whoL < g0
 fix : mb = false -> FixW xs now met whoL k
theorem WhI.skip {xs now : List ByteArray} {w : World} {no : Option Addr} {nc : Nat} {met : List Nod} {wg g0 k : Nat} {mb : Bool} {vs : List Value} {whoL : List (List ByteArray)} {wr wr' : World} (h : WhI xs now w no nc met wg g0 k mb vs whoL wr) (hb : Below wr.heap.size wr wr') {y : Nod} (hy : met[k]? = some y) (hk : (ruleL (ruleOfs xs) (txT y)).size = 0 \/ ∀ s, tellF now (txT y) (Wof met whoL) (ruleL (ruleOfs xs) (txT y)).size (ruleL (ruleOfs xs) (txT y)) s -> s ∈ whoL.getD k []) :
  WhI xs now w no nc met wg g0 (k + 1) mb vs whoL wr' := ⟨h.s.later hb, h.le, h.lt, fun e => (h.fix e).next hy hk⟩
theorem who_by {xs now : List ByteArray} (ok : DocOk xs now) {x : Nod} {met : List Nod} (mo : MetOk xs now x met) (hml : met.length <= 300000) {b : Nat} {tv : Value} {w : World} (ht : StrsAt w tv now) {no : Option Addr} {nc wg g0 k : Nat} {mb : Bool} {vs : List Value} {whoL : List (List ByteArray)} {wr : World} (h : WhI xs now w no nc met wg g0 k mb vs whoL wr) {y : Nod} (hy : met[k]? = some y) (h0 : (ruleL (ruleOfs xs) (txT y)).size ≠ 0) :
  Calls Tryz.prog 200 #[.pointer (some ⟨b, 0, none⟩), tv, .slice no met.length nc, .slice (some ⟨wg, 0, none⟩) met.length met.length, .string (txT y), .string (ruleL (ruleOfs xs) (txT y))] wr fun e w' => ∃ o c out, e = .returned (.slice o out.length c) /\ out.length <= 50 /\ ∃ x c', w'.cell? ⟨wg, k, none⟩ = some (.slice x (whoL.getD k []).length c') /\ w'.frozen? ⟨wg, k, none⟩ = false /\
   Hid (if (whoL.getD k []).length < out.length then WhI xs now w no nc met wg g0 (k + 1) true (vs.set k (.slice o out.length c)) (whoL.set k out) (w'.setCell ⟨wg, k, none⟩ (.slice o out.length c)) else WhI xs now w no nc met wg g0 (k + 1) mb vs whoL w') := by
 have hym := List.mem_of_getElem? hy
 have hkl := (List.getElem?_eq_some_iff.1 hy).1
 obtain ⟨ky, ny, ry, hny⟩ := mo.nm y hym
 obtain ⟨hw1, hw2⟩ := rule_way ok hny h0
 have hin : ∀ z ∈ namedF now (txT y) (ruleL (ruleOfs xs) (txT y)).size (ruleL (ruleOfs xs) (txT y)), z ∈ met.map txT := by
  rcases names_txt ok.hv ok.ht hny with ⟨e, -⟩ | ⟨-, e⟩
  ·exact absurd e h0
  ·rw [e _ (Nat.le_refl _)]
   intro z hz
   obtain ⟨v, hv, rfl⟩ := List.mem_map.1 hz
   exact List.mem_map.2 ⟨v, mo.closed hym v hv, rfl⟩
 refine (by_any b ok (h.s.byK ok hml) hny _ _ wr (by omega) hw2 hin (h.s.byC ht)).mono ?_
 rintro e w' ⟨o, c, out, rfl, hown, hg, hb⟩
 obtain ⟨q1, q2, q3⟩ := WRnd.grow ok mo h.s.inv hy h0 hg
 have hs' := h.s.later hb
 obtain ⟨x, c', hx, -⟩ := hs'.cell hkl
 have hol : out.length <= 50 := Nat.le_trans hg.len (usT_len ok.nl)
 refine ⟨o, c, out, rfl, hol, x, c', hx, row_frozen hs'.row _, ?_⟩
 show (if _ then _ else _)
 by_cases hlt : (whoL.getD k []).length < out.length
 ·rw [if_pos hlt]
  have hgap := gapT_set (whoL := whoL) (i := k) (out := out) (by rw [h.s.inv.len]; exact hkl) hlt hol
  have hle := h.le
  exact ⟨hs'.set hkl (owns_strT hown) q2, by omega, fun _ => by omega, fun e => by cases e⟩
 ·rw [if_neg hlt]
  exact h.skip hb hy (Or.inr (q3 (by omega)))
theorem refWho_any : RWhoC := by
 intro xs now ok b g tv w h x k n r hx
 have HND : Hid (Calls Tryz.prog 171 #[.pointer (some ⟨b, 0, none⟩), tv, .string (txT x)] w (RNeedP xs now x w)) := refNeeds_any ok h hx
 have HRU : Hid (∀ (y : Nod) (w1 : World), Below w.heap.size w w1 -> (∃ k n r, NmN y k n (some r)) -> Calls Tryz.prog 72 #[.pointer (some ⟨b, 0, none⟩), .string (txT y)] w1 fun e w' => e = .returned (.string (ruleL (ruleOfs xs) (txT y))) /\ ∃ n, w' = w1.drewN n) := by
  rintro y w1 hb ⟨k, n, r, hy⟩
  exact ref_rule ok (h.below hb) hy
 have HTV : Hid (StrsAt w tv now) := h.tv
 have HOK : Hid (DocOk xs now) := ok
 have htv : ∃ x n c, tv = .slice x n c := by
  rcases h.tv with ⟨rfl, -⟩ | ⟨b, off, cap, rfl, -⟩
  ·exact ⟨_, _, _, rfl⟩
  ·exact ⟨_, _, _, rfl⟩
 obtain ⟨tx, tn, tc, rfl⟩ := htv
 have HFIN : Hid (∀ (no : Option Addr) (nc : Nat) (met : List Nod) (wg : Nat) (vs : List Value) (whoL : List (List ByteArray)) (wr : World), MetOk xs now x met -> WhS xs now w no nc met wg vs whoL wr -> FixW xs now met whoL met.length -> ∃ o c, wr.cell? ⟨wg, 0, none⟩ = some (.slice o (whoL.getD 0 []).length c) /\ RWhoP xs now x w (.returned (.slice o (whoL.getD 0 []).length c)) wr) := by
  intro no nc met wg vs whoL wr mo hS hF
  obtain ⟨o, c, hc, hT⟩ := hS.cell (i := 0) (List.getElem?_eq_some_iff.1 mo.gone.first).1
  obtain ⟨q1, q2, q3⟩ := last_round ok mo hS.inv fun i y hy => hF i y (List.getElem?_eq_some_iff.1 hy).1 hy
  exact ⟨o, c, hc, o, c, _, rfl, hT.strs, q1, q2, q3, hS.below⟩
 generalize txT x = tx0 at HND
 generalize hP : RWhoP xs now x w = P at *
 clear hP h hx ok
 go_enter Tryz.func169, Tryz.ntmps169
 go_wp2_with (go_at_call 171; refine HND.out.mono ?_; rintro e w1 ⟨no, nc, met, rfl, mo, hown, hml, hb1⟩; have HMO : Hid (MetOk xs now x met) := mo; have HML : Hid (met.length <= 300000) := hml; have HST : Hid (WhS xs now w no nc met w1.heap.size (List.replicate met.length (.slice none 0 0)) (List.replicate met.length []) (w1.alloc (.cells (madeCells #[.slice none 0 0] met.length) 28))) := WhS.start hown hb1; have hmk := run_make_row' (P := Tryz.prog) 59 28 (.slice none 0 0) 24 Tryz.underlying59 Tryz.infoSl rfl .i64 .i64 met.length (by omega) (by omega); clear mo hown hb1)
 clear hmk
 have hpos : 0 < met.length := (List.getElem?_eq_some_iff.1 HMO.out.gone.first).1
 go_loopg [9] (2 * gapT (List.replicate met.length []) + 1) (fun gk mv wr => ∃ (mb : Bool) (vs : List Value) (whoL : List (List ByteArray)), mv = .bool mb /\ WhS xs now w no nc met w1.heap.size vs whoL wr /\ gk = 2 * gapT whoL + (if mb = true then 1 else 0) /\ (mb = false -> FixW xs now met whoL met.length))
 case atStart => exact ⟨true, _, _, rfl, HST.out, rfl, fun e => by cases e⟩
 case round =>
  obtain ⟨mb, vs, whoL, rfl, hS, hgk, hF⟩ := hrel
  clear HST
  cases mb with
  | false =>
   obtain ⟨o, c, hc, hp⟩ := HFIN.out no nc met w1.heap.size vs whoL wr HMO.out hS (hF rfl)
   have HP : Hid (P (.returned (.slice o (whoL.getD 0 []).length c)) wr) := hp
   clear hp hS hF hgk HFIN HRU HTV
   generalize (whoL.getD 0 []).length = n0 at *
   go_wp2
   exact HP.out
  | true =>
   have HGK : Hid (gk = 2 * gapT whoL + 1) := hgk
   have HI1 : Hid (WhI xs now w no nc met w1.heap.size (gapT whoL) 0 false vs whoL wr) := ⟨hS, Nat.le_refl _, (fun e => by cases e), fun _ i y hi => absurd hi (Nat.not_lt_zero _)⟩
   clear hS hF hgk HFIN
   generalize gapT whoL = g0 at *
   go_wp2
   go_loopg [9, 10] met.length (fun gk2 mv i w4 => ∃ (mb2 : Bool) (k : Nat) (vs2 : List Value) (whoL2 : List (List ByteArray)), mv = .bool mb2 /\ i = .int .i64 k /\ k <= met.length /\ gk2 = met.length - k /\ WhI xs now w no nc met w1.heap.size g0 k mb2 vs2 whoL2 w4)
   case atStart => exact ⟨false, 0, vs, whoL, rfl, rfl, Nat.zero_le _, rfl, HI1.out⟩
   case round =>
    obtain ⟨mb2, k, vs2, whoL2, rfl, rfl, hk, hgk2, hI⟩ := hrel
    have HG2 : Hid _ := hgk2
    clear hgk2
    clear HI1
    have HI : Hid (WhI xs now w no nc met w1.heap.size g0 k mb2 vs2 whoL2 wr) := hI
    clear hI
    by_cases hlt : k < met.length
    ·obtain ⟨y, hy⟩ : ∃ y, met[k]? = some y := ⟨_, List.getElem?_eq_getElem hlt⟩
     obtain ⟨gn, cn, hen, hcn⟩ := owns_cell HI.out.s.nodes hpos
     injection hen with hen _ hen2
     subst hen; subst hen2
     have hck := hcn k (.string (txT y)) (strV_get (by rw [List.getElem?_map, hy]; rfl))
     have hckd : ∀ nq, (wr.drewN nq).cell? ⟨gn, k, none⟩ = some (.string (txT y)) := fun nq => hck
     have hym := List.mem_of_getElem? hy
     have HRY : Hid (Calls Tryz.prog 72 #[.pointer (some ⟨b, 0, none⟩), .string (txT y)] wr fun e w' => e = .returned (.string (ruleL (ruleOfs xs) (txT y))) /\ ∃ n, w' = wr.drewN n) := HRU.out y wr HI.out.s.below (HMO.out.nm y hym)
     by_cases hz : (ruleL (ruleOfs xs) (txT y)).size = 0
     ·have hz2 : (ruleL (ruleOfs xs) (txT y)).toList.isEmpty = true := (empty_size _).2 hz
      have HNX : Hid (∀ nq, WhI xs now w (some ⟨gn, 0, none⟩) nc met w1.heap.size g0 (k + 1) mb2 vs2 whoL2 (wr.drewN nq)) := fun nq => HI.out.skip (below_draw ⟨nq, rfl⟩) hy (Or.inl hz)
      generalize ruleL (ruleOfs xs) (txT y) = way at *
      generalize txT y = ty at *
      clear hz HRU hcn hy HI
      go_wp2_with (go_at_call 72; refine HRY.out.mono ?_; rintro e w3 ⟨rfl, nq, rfl⟩)
      go_roundg (met.length - (k + 1))
      case rel => exact ⟨mb2, k + 1, vs2, whoL2, rfl, by go_num, by omega, rfl, HNX.out _⟩
      case measure => have := HG2.out; omega
     ·have hz2 : (ruleL (ruleOfs xs) (txT y)).toList.isEmpty = false := empty_no0 hz
      have HBY : Hid (∀ nq, Calls Tryz.prog 200 #[.pointer (some ⟨b, 0, none⟩), .slice tx tn tc, .slice (some ⟨gn, 0, none⟩) met.length nc, .slice (some ⟨w1.heap.size, 0, none⟩) met.length met.length, .string (txT y), .string (ruleL (ruleOfs xs) (txT y))] (wr.drewN nq) _) := fun nq => who_by HOK.out HMO.out HML.out HTV.out (k := k) (⟨HI.out.s.later (below_draw ⟨nq, rfl⟩), HI.out.le, HI.out.lt, HI.out.fix⟩ : WhI xs now w (some ⟨gn, 0, none⟩) nc met w1.heap.size g0 k mb2 vs2 whoL2 (wr.drewN nq)) hy hz
      generalize ruleL (ruleOfs xs) (txT y) = way at *
      generalize txT y = ty at *
      generalize (whoL2.getD k []).length = n2 at *
      clear hz HRU hcn hy HI
      go_wp2_with (first | (go_at_call 72; refine HRY.out.mono ?_; rintro e w3 ⟨rfl, nq, rfl⟩) | (go_at_call 200; refine (HBY.out _).mono ?_; rintro e w5 ⟨o5, c5, out5, rfl, hol, x5, c6, hcx, hfz, HN⟩; by_cases hlo : n2 < out5.length))
      ·have HNX : Hid (WhI xs now w (some ⟨gn, 0, none⟩) nc met w1.heap.size g0 (k + 1) true (vs2.set k (.slice o5 out5.length c5)) (whoL2.set k out5) (w5.setCell ⟨w1.heap.size, k, none⟩ (.slice o5 out5.length c5))) := by have := HN.out; rw [if_pos hlo] at this; exact this
       clear HN
       go_wp2
       go_roundg (met.length - (k + 1))
       case rel => exact ⟨true, k + 1, _, _, rfl, by go_num, by omega, rfl, HNX.out⟩
       case measure => have := HG2.out; omega
      ·have HNX : Hid (WhI xs now w (some ⟨gn, 0, none⟩) nc met w1.heap.size g0 (k + 1) mb2 vs2 whoL2 w5) := by have := HN.out; rw [if_neg hlo] at this; exact this
       clear HN
       go_wp2
       go_roundg (met.length - (k + 1))
       case rel => exact ⟨mb2, k + 1, _, _, rfl, by go_num, by omega, rfl, HNX.out⟩
       case measure => have := HG2.out; omega
    ·obtain rfl : k = met.length := by omega
     go_wp2
     go_roundg (2 * gapT whoL2 + (if mb2 = true then 1 else 0))
     case measure =>
      have := HGK.out
      have := HI.out.le
      have := HI.out.lt
      cases mb2
      ·simp; omega
      ·have := this rfl; simp; omega
     case rel => exact ⟨mb2, vs2, whoL2, rfl, HI.out.s, rfl, HI.out.fix⟩
end Go.Proofs.YtalmoiogbdahcaaGreat
