import Derived.Test.YtalmoiogbdahcaaGreatYTieC0
import Derived.Test.YtalmoiogbdahcaaGreatYTieM
import Derived.Deep.CutRange
namespace Go.Proofs.YtalmoiogbdahcaaGreat
set_option maxRecDepth 100000
set_option maxHeartbeats 8000000
open Go.RowKit
def addL (met l : List Nod) : List Nod := l.foldl addN met
theorem mem_addL : ∀ (l met : List Nod) (y : Nod), y ∈ addL met l ↔ y ∈ met \/ y ∈ l := by
 intro l
 induction l with
 | nil => intro met y; simp [addL]
 | cons a l ih =>
  intro met y
  show y ∈ addL (addN met a) l ↔ _
  rw [ih, mem_addN]
  simp only [List.mem_cons]
  constructor
  ·rintro ((h | h) | h)
   ·exact Or.inl h
   ·exact Or.inr (Or.inl h)
   ·exact Or.inr (Or.inr h)
  ·rintro (h | h | h)
   ·exact Or.inl (Or.inl h)
   ·exact Or.inl (Or.inr h)
   ·exact Or.inr h
theorem addL_prefix : ∀ (l met : List Nod), met <+: addL met l := by
 intro l
 induction l with
 | nil => intro met; exact List.prefix_refl _
 | cons a l ih => intro met; exact (addN_prefix met a).trans (ih (addN met a))
theorem addL_nodup : ∀ (l : List Nod) {met : List Nod}, met.Nodup -> (addL met l).Nodup := by
 intro l
 induction l with
 | nil => intro met h; exact h
 | cons a l ih => intro met h; exact ih (addN_nodup h a)
theorem addL_next {met l : List Nod} {k : Nat} {y : Nod} (h : l[k]? = some y) : addL met (l.take (k + 1)) = addN (addL met (l.take k)) y := by
 unfold addL
 rw [takeL_snoc h, List.foldl_append]; rfl
structure StInv (U : List ByteArray) (ts : List (Nod × Nod)) (xs : List ByteArray) (lo tb sb : Nat) (f : Nod -> Option Value) (who : Nod -> Nat) (wb nb mb : Nat) (L : TL) (S : TS) (sv : Value) (met : List Nod) (gone : Nat) (w : World) (L2 : TL) (S2 : TS) (rvv : Value) (l : List Nod) (k : Nat) (sv3 : Value) (wr : World) : Prop where
 ta : TA U ts xs lo tb sb f who L2 S2 wr
 m : MetAt L2 sb S2 wr lo nb mb sv3 (addL met (l.take k))
 blk : wr.heap[wb]? = some (.cells [Value.pointer (some ⟨tb, 0, none⟩), .pointer (some ⟨nb, 0, none⟩), .int .i64 gone].toArray 139 (0, 0))
 row : wr.ownsRow w.heap.size 136 1 rvv l.length (l.map (cxN S2))
 ap : ∀ g, rvv.ownBlock = some g -> sv3.ownBlock ≠ some g
 kl : ∀ y ∈ l, Kn S2 y
 nl : ∀ y ∈ l, y.isTh = false
 fr : Frm (walkX wb nb mb L sv) w wr
 ownR : ∀ k, L2.sr.ownBlock = some k -> L.sr.ownBlock = some k \/ w.heap.size <= k
 ownM : ∀ k, sv3.ownBlock = some k -> sv.ownBlock = some k \/ w.heap.size <= k
 loc : L2 = { L with sr := L2.sr }
 ths : S2.ths = S.ths
 uss : S2.uss = S.uss
 pre : S.rels <+: S2.rels
theorem StInv.start {U : List ByteArray} {ts : List (Nod × Nod)} {xs : List ByteArray} {lo tb sb : Nat} {f : Nod -> Option Value} {who : Nod -> Nat} {wb nb mb : Nat} {L : TL} {S : TS} {sv : Value} {met : List Nod} {gone : Nat} {w : World} (h : WA U ts xs lo tb sb f who wb nb mb L S sv met gone w) {w1 : World} (hb1 : Below w.heap.size w w1) {l : List Nod} (hl : ∀ y ∈ l, y.isTh = false) {e : Ending} {w2 : World} (hp : NamesP U lo tb f who L S w1 l e w2) :
  ∃ L2 S2 v, e = .returned v /\ StInv U ts xs lo tb sb f who wb nb mb L S sv met gone w L2 S2 v l 0 sv w2 := by
 obtain ⟨L2, S2, v, he, ho, hk, r⟩ := hp
 have h1 := h.below hb1
 have rr := (RStep.below h.ta.t hb1).trans r
 have g := GStep.of h1.ta r
 obtain ⟨nw, -⟩ := h1.walk_not
 refine ⟨L2, S2, v, he, h1.ta.rstep r, h1.m.gstep h1.ta g, ?_, owns_base ho hb1.size, ?_, hk, hl, rr.fr.mono fun _ _ e => Or.inl e, rr.own, fun k e => Or.inl e, rr.loc, rr.ths, rr.uss, rr.pre⟩
 ·rw [r.fr.block wb (row_lt h1.blk) nw]; exact h1.blk
 ·intro gg hg e
  have := (owns_lt ho gg hg).2.1
  have := (owns_lt h1.m.num.row gg e).1
  omega
theorem StInv.next {U : List ByteArray} {ts : List (Nod × Nod)} {xs : List ByteArray} {lo tb sb : Nat} {f : Nod -> Option Value} {who : Nod -> Nat} {wb nb mb : Nat} {L : TL} {S : TS} {sv : Value} {met : List Nod} {gone : Nat} {w : World} {L2 : TL} {S2 : TS} {rvv : Value} {l : List Nod} {k : Nat} {sv3 : Value} {wr : World}
  (h : StInv U ts xs lo tb sb f who wb nb mb L S sv met gone w L2 S2 rvv l k sv3 wr) (hlo : lo <= w.heap.size) {y : Nod} (hy : l[k]? = some y) :
  Calls Tryz.prog 135 #[.pointer (some ⟨nb, 0, none⟩), cxN S2 y] wr fun e w' => (∃ i : Nat, e = .returned (.int .i64 i)) /\ ∃ sv', StInv U ts xs lo tb sb f who wb nb mb L S sv met gone w L2 S2 rvv l (k + 1) sv' w' := by
 have hws := h.fr.size
 have hlen := met_len h.ta.t.ok h.m.num.nd h.m.kn
 refine (met_number h.ta h.m (by omega) (by omega) (h.kl y (List.mem_of_getElem? hy))).mono ?_
 rintro e w' ⟨he, sv', t', m', hf, ho⟩
 have hwb : ¬ numX nb mb sv3 wb := fun e => by
  rcases h.m.num.kind e h.blk with e | e <;> revert e <;> decide
 refine ⟨he, sv', t', by rw [addL_next hy]; exact m', ?_, owns_to h.row fun g hg => ?_, ?_, h.kl, h.nl, ?_, h.ownR, ?_, h.loc, h.ths, h.uss, h.pre⟩
 ·rw [hf.block wb (row_lt h.blk) hwb]; exact h.blk
 ·obtain ⟨hg1, hg2, cur, hg3⟩ := owns_lt h.row g hg
  refine hf.block g hg1 fun e => ?_
  rcases e with e | e | e
  ·have := h.m.num.blk; rw [← e, hg3] at this; injection this with this; injection this with _ this; revert this; decide
  ·obtain ⟨es, c, q, -⟩ := h.m.num.map; rw [← e, hg3] at q; injection q with q; cases q
  ·exact h.ap g hg e
 ·intro g hg e
  rcases ho g e with e | e
  ·exact h.ap g hg e
  ·have := (owns_lt h.row g hg).1; omega
 ·refine h.fr.trans hf fun j hj e => ?_
  rcases e with e | e | e
  ·exact Or.inr (Or.inl (Or.inl e))
  ·exact Or.inr (Or.inl (Or.inr (Or.inl e)))
  ·rcases h.ownM j e with e | e
   ·exact Or.inr (Or.inl (Or.inr (Or.inr e)))
   ·omega
 ·intro j hj
  rcases ho j hj with e | e
  ·exact h.ownM j e
  ·exact Or.inr (by omega)
theorem StInv.done {U : List ByteArray} {ts : List (Nod × Nod)} {xs : List ByteArray} {lo tb sb : Nat} {f : Nod -> Option Value} {who : Nod -> Nat} {wb nb mb : Nat} {L : TL} {S : TS} {sv : Value} {met : List Nod} {gone : Nat} {w : World} {L2 : TL} {S2 : TS} {rvv : Value} {l : List Nod} {sv3 : Value} {wr : World}
  (h : StInv U ts xs lo tb sb f who wb nb mb L S sv met gone w L2 S2 rvv l l.length sv3 wr) (h0 : WA U ts xs lo tb sb f who wb nb mb L S sv met gone w) (hg : gone < met.length) :
  WStep U ts xs lo tb sb f who wb nb mb L S sv w L2 S2 sv3 (addL met l) (gone + 1) (wr.setCell ⟨wb, 2, none⟩ (.int .i64 ((gone : Int) + 1))) := by
 have hm := h.m
 rw [List.take_of_length_le (Nat.le_refl _)] at hm
 have hf : Frm (fun k => k = wb) wr (wr.setCell ⟨wb, 2, none⟩ (.int .i64 ((gone : Int) + 1))) := ⟨rfl, rfl, rfl, by simp [World.setCell], fun k _ hx => Below.heap_setCell _ _ _ _ hx⟩
 have hwb : ¬ numX nb mb sv3 wb := fun e => by
  rcases h.m.num.kind e h.blk with e | e <;> revert e <;> decide
 refine ⟨⟨h.ta.keep hf fun k _ e => ?_, hm.keep hf fun k hk e => hwb (e ▸ hk), row_set h.blk 2 _, ?_, ?_⟩, h.fr.trans hf fun j _ e => Or.inr (Or.inr e), h.ownR, h.ownM, h.loc, h.ths, h.uss, h.pre⟩
 ·rw [e]; exact Or.inr (Or.inl ⟨_, _, h.blk, by decide⟩)
 ·intro y hy
  rcases (mem_addL l met y).1 hy with e | e
  ·exact h0.nodes y e
  ·exact h.nl y e
 ·have := (addL_prefix l met).length_le; omega
def StepC (U : List ByteArray) (ts : List (Nod × Nod)) (xs : List ByteArray) : Prop := ∀ {lo tb sb : Nat} {f : Nod -> Option Value} {who : Nod -> Nat} {wb nb mb : Nat} {L : TL} {S : TS} {sv : Value} {met : List Nod} {gone : Nat} {w : World}, WA U ts xs lo tb sb f who wb nb mb L S sv met gone w -> ∀ {x : Nod}, met[gone]? = some x ->
  Calls Tryz.prog 140 #[.pointer (some ⟨wb, 0, none⟩)] w fun e w' => e = .returned (.tuple #[]) /\ ∃ L' S' sv', WStep U ts xs lo tb sb f who wb nb mb L S sv w L' S' sv' (addL met (namesN ts (ruleN xs) x)) (gone + 1) w'
structure Gone (ts : List (Nod × Nod)) (xs : List ByteArray) (x0 : Nod) (met : List Nod) (gone : Nat) : Prop where
 first : met[0]? = some x0
 rch : ∀ y ∈ met, Rch ts (ruleN xs) x0 y
 closed : ∀ i y, i < gone -> met[i]? = some y -> ∀ z ∈ namesN ts (ruleN xs) y, z ∈ met
theorem Gone.next {ts : List (Nod × Nod)} {xs : List ByteArray} {x0 : Nod} {met : List Nod} {gone : Nat} (h : Gone ts xs x0 met gone) {x : Nod} (hx : met[gone]? = some x) : Gone ts xs x0 (addL met (namesN ts (ruleN xs) x)) (gone + 1) := by
 have hp := addL_prefix (namesN ts (ruleN xs) x) met
 have hget : ∀ (i : Nat) (y : Nod), met[i]? = some y -> (addL met (namesN ts (ruleN xs) x))[i]? = some y := fun i y hi => by
  obtain ⟨t, ht⟩ := hp
  rw [← ht, List.getElem?_append_left (List.getElem?_eq_some_iff.1 hi).1]; exact hi
 refine ⟨hget 0 x0 h.first, fun y hy => ?_, fun i y hi hy z hz => ?_⟩
 ·rcases (mem_addL _ _ y).1 hy with e | e
  ·exact h.rch y e
  ·exact Rch.on (h.rch x (List.mem_of_getElem? hx)) e
 ·have hgl := (List.getElem?_eq_some_iff.1 hx).1
  obtain ⟨y', hy'⟩ : ∃ y', met[i]? = some y' := ⟨_, List.getElem?_eq_getElem (by omega)⟩
  have := hget i y' hy'
  rw [hy] at this
  injection this with this
  subst this
  refine (mem_addL _ _ z).2 ?_
  by_cases e : i = gone
  ·subst e
   rw [hx] at hy'
   injection hy' with hy'
   right; rw [hy']; exact hz
  ·left; exact h.closed i y (by omega) hy' z hz
theorem Gone.all {ts : List (Nod × Nod)} {xs : List ByteArray} {x0 : Nod} {met : List Nod} (h : Gone ts xs x0 met met.length) (y : Nod) : y ∈ met ↔ Rch ts (ruleN xs) x0 y := by
 refine ⟨h.rch y, fun hr => ?_⟩
 refine Rch.in (S := (· ∈ met)) (fun x hx z hz => ?_) (List.mem_of_getElem? h.first) hr
 obtain ⟨i, hi⟩ := List.mem_iff_getElem?.1 hx
 exact h.closed i x (List.getElem?_eq_some_iff.1 hi).1 hi z hz
def goneOf (w : World) (wb : Nat) : Nat := match w.cell? ⟨wb, 2, none⟩ with | some (.int _ n) => n.toNat | _ => 0
theorem goneOf_eq {U : List ByteArray} {ts : List (Nod × Nod)} {xs : List ByteArray} {lo tb sb : Nat} {f : Nod -> Option Value} {who : Nod -> Nat} {wb nb mb : Nat} {L : TL} {S : TS} {sv : Value} {met : List Nod} {gone : Nat} {w : World} (h : WA U ts xs lo tb sb f who wb nb mb L S sv met gone w) : goneOf w wb = gone := by
 unfold goneOf
 rw [row_cell h.blk (j := 2) rfl]
 simp
theorem finish_any {U : List ByteArray} {ts : List (Nod × Nod)} {xs : List ByteArray} (HC : Hid (StepC U ts xs)) {lo tb sb : Nat} {f : Nod -> Option Value} {who : Nod -> Nat} {wb nb mb : Nat} {L : TL} {S : TS} {sv : Value} {met : List Nod} {gone : Nat} {w : World} (h : WA U ts xs lo tb sb f who wb nb mb L S sv met gone w) {x0 : Nod} (hg : Gone ts xs x0 met gone) :
  Calls Tryz.prog 87 #[.pointer (some ⟨wb, 0, none⟩)] w fun e w' => e = .returned (.tuple #[]) /\ ∃ L' S' sv' met', WStep U ts xs lo tb sb f who wb nb mb L S sv w L' S' sv' met' met'.length w' /\ Gone ts xs x0 met' met'.length := by
 have HST : Hid (WStep U ts xs lo tb sb f who wb nb mb L S sv w L S sv met gone w) := WStep.below h (Below.refl _ _)
 have HG0 : Hid (Gone ts xs x0 met gone) := hg
 clear h hg
 go_enter Tryz.func87, Tryz.ntmps87
 go_wp2
 go_loopw [2] (fun _ wr => ∃ (L2 : TL) (S2 : TS) (sv2 : Value) (met2 : List Nod) (gone2 : Nat), WStep U ts xs lo tb sb f who wb nb mb L S sv w L2 S2 sv2 met2 gone2 wr /\ Gone ts xs x0 met2 gone2) (fun _ wr => 32000000 - goneOf wr wb)
 case atStart => exact ⟨L, S, sv, met, gone, HST.out, HG0.out⟩
 case round =>
  obtain ⟨L2, S2, sv2, met2, gone2, hs, hg⟩ := hrel
  have HS : Hid (WStep U ts xs lo tb sb f who wb nb mb L S sv w L2 S2 sv2 met2 gone2 wr) := hs
  have HG : Hid (Gone ts xs x0 met2 gone2) := hg
  have hen := walkEnded_any hs.at'
  have HLN : Hid (met2.length <= 32000000) := met_len hs.at'.ta.t.ok hs.at'.m.num.nd hs.at'.m.kn
  have HGO : Hid (goneOf wr wb = gone2) := goneOf_eq hs.at'
  have hgl := hs.at'.gl
  clear hs hg HST HG0
  by_cases he : gone2 = met2.length
  ·rw [decide_eq_true he] at hen
   go_wp2_with (go_at_call 139; refine hen.mono ?_; rintro e w1 ⟨rfl, hb1⟩)
   go_end0
   have h1 := HS.out
   have h2 := HG.out
   rw [he] at h1 h2
   exact ⟨rfl, L2, S2, sv2, met2, h1.trans (WStep.below h1.at' hb1), h2⟩
  ·rw [decide_eq_false he] at hen
   obtain ⟨x, hx⟩ : ∃ x, met2[gone2]? = some x := ⟨_, List.getElem?_eq_getElem (by omega)⟩
   have HX : Hid (met2[gone2]? = some x) := hx
   have hgl2 : gone2 < met2.length := by omega
   have HSC : Hid (∀ w1, Below wr.heap.size wr w1 -> Calls Tryz.prog 140 #[.pointer (some ⟨wb, 0, none⟩)] w1 fun e w' => e = .returned (.tuple #[]) /\ goneOf w' wb = gone2 + 1 /\ ∃ L' S' sv', WStep U ts xs lo tb sb f who wb nb mb L S sv w L' S' sv' (addL met2 (namesN ts (ruleN xs) x)) (gone2 + 1) w') := by
    intro w1 hb1
    have h1 := HS.out.trans (WStep.below HS.out.at' hb1)
    refine (HC.out h1.at' HX.out).mono ?_
    rintro e w' ⟨he, L', S', sv', hs⟩
    exact ⟨he, goneOf_eq hs.at', L', S', sv', h1.trans hs⟩
   clear hx he
   go_wp2_with (first | (go_at_call 139; refine hen.mono ?_; rintro e w1 ⟨rfl, hb1⟩) | (go_at_call 140; refine (HSC.out _ hb1).mono ?_; rintro e w2 ⟨rfl, hgo, L3, S3, sv3, hs3⟩; have HS3 : Hid (WStep U ts xs lo tb sb f who wb nb mb L S sv w L3 S3 sv3 (addL met2 (namesN ts (ruleN xs) x)) (gone2 + 1) w2) := hs3; have HGO2 : Hid (goneOf w2 wb = gone2 + 1) := hgo; clear hs3 hgo))
   go_roundw
   case rel => exact ⟨L3, S3, sv3, _, _, HS3.out, HG.out.next HX.out⟩
   case measure => rw [HGO.out, HGO2.out]; have := HLN.out; omega
theorem walkCost_any {U : List ByteArray} {ts : List (Nod × Nod)} {xs : List ByteArray} (HC : Hid (StepC U ts xs)) {lo tb sb : Nat} {f : Nod -> Option Value} {who : Nod -> Nat} {wb nb mb : Nat} {L : TL} {S : TS} {sv : Value} {met : List Nod} {gone : Nat} {w : World} (h : WA U ts xs lo tb sb f who wb nb mb L S sv met gone w) {x0 : Nod} (hg : Gone ts xs x0 met gone) :
  Calls Tryz.prog 44 #[.pointer (some ⟨wb, 0, none⟩)] w fun e w' => ∃ L' S' sv' met', e = .returned (.int .i64 (met'.length : Nat)) /\ WStep U ts xs lo tb sb f who wb nb mb L S sv w L' S' sv' met' met'.length w' /\ Gone ts xs x0 met' met'.length := by
 have hf := finish_any HC h hg
 clear h hg HC
 go_enter Tryz.func44, Tryz.ntmps44
 go_wp2_with (go_at_call 87; refine hf.mono ?_; rintro e w1 ⟨rfl, L', S', sv', met', hs, hgo⟩; have HS : Hid (WStep U ts xs lo tb sb f who wb nb mb L S sv w L' S' sv' met' met'.length w1) := hs; have c2 := row_cell hs.at'.blk (j := 2) rfl; clear hs)
 go_ret
 exact ⟨L', S', sv', met', rfl, HS.out, hgo⟩
theorem walkStep_go (HW : Hid TWayC) {U : List ByteArray} {ts : List (Nod × Nod)} {xs : List ByteArray} (cov : Cov U xs) {lo tb sb : Nat} {f : Nod -> Option Value} {who : Nod -> Nat} {wb nb mb : Nat} {L : TL} {S : TS} {sv : Value} {met : List Nod} {gone : Nat} {w : World} (h : WA U ts xs lo tb sb f who wb nb mb L S sv met gone w) {x : Nod} (hx : met[gone]? = some x) :
  Calls Tryz.prog 140 #[.pointer (some ⟨wb, 0, none⟩)] w fun e w' => e = .returned (.tuple #[]) /\ ∃ L' S' sv', WStep U ts xs lo tb sb f who wb nb mb L S sv w L' S' sv' (addL met (namesN ts (ruleN xs) x)) (gone + 1) w' := by
 have hgl : gone < met.length := (List.getElem?_eq_some_iff.1 hx).1
 have hen := walkEnded_any h
 rw [decide_eq_false (by omega)] at hen
 have hlen := met_len h.ta.t.ok h.m.num.nd h.m.kn
 have HC : Hid (∀ w1, Below w.heap.size w w1 -> ∃ g c, w1.cell? ⟨wb, 0, none⟩ = some (.pointer (some ⟨tb, 0, none⟩)) /\ w1.cell? ⟨wb, 1, none⟩ = some (.pointer (some ⟨nb, 0, none⟩)) /\ w1.cell? ⟨wb, 2, none⟩ = some (.int .i64 gone) /\ w1.cell? ⟨nb, 1, none⟩ = some (.slice (some ⟨g, 0, none⟩) met.length c) /\ w1.cell? ⟨g, gone, none⟩ = some (cxN S x)) := by
  intro w1 hb1
  have h1 := h.below hb1
  obtain ⟨g, cap, hsv, hcell⟩ := owns_cell h1.m.num.row (by omega)
  have n1 := row_cell h1.m.num.blk (j := 1) rfl
  rw [hsv] at n1
  refine ⟨g, cap, row_cell h1.blk (j := 0) rfl, row_cell h1.blk (j := 1) rfl, row_cell h1.blk (j := 2) rfl, n1, hcell gone _ ?_⟩
  rw [flat1, List.getElem?_map, hx]; rfl
 obtain ⟨l, hl⟩ : ∃ l, namesN ts (ruleN xs) x = l := ⟨_, rfl⟩
 have hln : ∀ y ∈ l, y.isTh = false := by
  intro y hy
  rw [← hl] at hy
  have := (List.mem_filter.1 hy).2
  simpa using this
 have hll : l.length <= 10251 := by
  rw [← hl]
  have h0 := List.length_filter_le (fun y : Nod => !y.isTh) (namedW ts x (ruleN xs x))
  have h1 := namedW_len ts x (ruleN xs x)
  have h3 := h.ta.tn
  have : lvW (ruleN xs x) * (ts.length + 1) <= 201 * 51 := Nat.mul_le_mul (cov.lv x) (by omega)
  unfold namesN
  omega
 have HN : Hid (∀ w1, Below w.heap.size w w1 -> Calls Tryz.prog 182 #[.pointer (some ⟨tb, 0, none⟩), cxN S x] w1 fun e w2 => ∃ L2 S2 o c, e = .returned (.slice o l.length c) /\ StInv U ts xs lo tb sb f who wb nb mb L S sv met gone w L2 S2 (.slice o l.length c) l 0 sv w2) := by
  intro w1 hb1
  have kx := h.m.kn x (List.mem_of_getElem? hx)
  have := names_any HW cov (h.ta.below hb1) kx
  rw [hl] at this
  refine this.mono ?_
  intro e w2 hp
  obtain ⟨L2, S2, v, he, hI⟩ := StInv.start h hb1 hln hp
  obtain ⟨o, c, rfl⟩ := owns_form hI.row
  exact ⟨L2, S2, o, c, he, hI⟩
 have HH : Hid (WA U ts xs lo tb sb f who wb nb mb L S sv met gone w) := h
 have hlo : lo <= w.heap.size := h.ta.lo
 rw [hl]
 obtain ⟨nn, hnn⟩ : ∃ nn, l.length = nn := ⟨_, rfl⟩
 have HNN : Hid (l.length = nn) := hnn
 rw [hnn] at hll HN
 generalize cxN S x = cx at *
 have HGL : Hid (gone < met.length) := hgl
 obtain ⟨mm, hmm⟩ : ∃ mm, met.length = mm := ⟨_, rfl⟩
 rw [hmm] at hgl hlen HC
 clear h hl hln hnn hmm hx
 go_enter Tryz.func140, Tryz.ntmps140
 go_wp2_with (go_at_call 139; refine hen.mono ?_; rintro e w1 ⟨rfl, hb1⟩; obtain ⟨g, cap, c0, c1, c2, n1, gx⟩ := HC.out w1 hb1)
 go_cut [23, 24, 25] from 6 to 25 (fun rv ln i wx => ∃ (L2 : TL) (S2 : TS) (o : Option Addr) (cc : Nat), rv = .slice o nn cc /\ ln = .int .i64 nn /\ i = .int .i64 0 /\ StInv U ts xs lo tb sb f who wb nb mb L S sv met gone w L2 S2 (.slice o nn cc) l 0 sv wx)
 case first =>
  go_region_with (go_at_call 182; refine (HN.out _ (by first | exact hb1 | exact hb1.drew | exact below_drewN hb1 _)).mono ?_; rintro e w2 ⟨L2, S2, o, cc, rfl, hI⟩; have HI : Hid (StInv U ts xs lo tb sb f who wb nb mb L S sv met gone w L2 S2 (.slice o nn cc) l 0 sv w2) := hI; clear hI)
  all_goals (go_wp2_with fail; go_meet)
  all_goals exact ⟨L2, S2, o, cc, rfl, rfl, rfl, HI.out⟩
 case rest =>
  obtain ⟨L2, S2, o, cc, rfl, rfl, rfl, hI⟩ := hcut
  have HI0 : Hid (StInv U ts xs lo tb sb f who wb nb mb L S sv met gone w L2 S2 (.slice o nn cc) l 0 sv wc) := hI
  clear hI HN HC c0 c1 c2 n1 gx hen
  go_wp2
  go_loopw [25] (fun i wr => ∃ (k : Nat) (sv3 : Value), k <= nn /\ i = .int .i64 k /\ StInv U ts xs lo tb sb f who wb nb mb L S sv met gone w L2 S2 (.slice o nn cc) l k sv3 wr) (fun i _ => nn - (intOf i).toNat)
  case atStart => exact ⟨0, _, Nat.zero_le _, rfl, HI0.out⟩
  case round =>
   obtain ⟨k, sv3, hk, rfl, hI⟩ := hrel
   have HI : Hid (StInv U ts xs lo tb sb f who wb nb mb L S sv met gone w L2 S2 (.slice o nn cc) l k sv3 wr) := hI
   have d1 := row_cell hI.blk (j := 1) rfl
   clear hI HI0
   by_cases hlt : k < nn
   ·have hkl : k < l.length := by have := HNN.out; omega
    obtain ⟨z, hz⟩ : ∃ z, l[k]? = some z := ⟨_, List.getElem?_eq_getElem hkl⟩
    have hrow : CxRow wr (.slice o nn cc) (l.map (cxN S2)) := by
     refine owns_cxrow (base := w.heap.size) (t := 136) ?_
     rw [List.length_map]; exact HI.out.row
    obtain ⟨o', c', he, hc⟩ := hrow
    obtain ⟨g, hog, hcell⟩ := hc k (cxN S2 z) (by rw [List.getElem?_map, hz]; rfl)
    have hoo : o = some ⟨g, 0, none⟩ := by injection he with he; rw [he]; exact hog
    subst hoo
    have HNX : Hid (Calls Tryz.prog 135 #[.pointer (some ⟨nb, 0, none⟩), cxN S2 z] wr fun e w' => (∃ i : Nat, e = .returned (.int .i64 i)) /\ ∃ sv', StInv U ts xs lo tb sb f who wb nb mb L S sv met gone w L2 S2 (.slice (some ⟨g, 0, none⟩) nn cc) l (k + 1) sv' w') := HI.out.next hlo hz
    clear he hc hog hz hkl
    generalize cxN S2 z = cz at *
    go_wp2_with (go_at_call 135; refine HNX.out.mono ?_; rintro e w2 ⟨⟨i, rfl⟩, sv4, hI3⟩; have HI3 : Hid (StInv U ts xs lo tb sb f who wb nb mb L S sv met gone w L2 S2 (.slice (some ⟨g, 0, none⟩) nn cc) l (k + 1) sv4 w2) := hI3; clear hI3)
    go_roundw
    case rel => exact ⟨k + 1, sv4, by omega, by go_num, HI3.out⟩
    case measure => simp [intOf]; omega
   ·obtain rfl : k = nn := by omega
    have d2 := row_cell HI.out.blk (j := 2) rfl
    have z2 := row_frozen HI.out.blk 2
    have HF : Hid (WStep U ts xs lo tb sb f who wb nb mb L S sv w L2 S2 sv3 (addL met l) (gone + 1) (wr.setCell ⟨wb, 2, none⟩ (.int .i64 ((gone : Int) + 1)))) := by
     have h3 := HI.out
     rw [← HNN.out] at h3
     exact h3.done HH.out HGL.out
    go_wp2
    go_end0
    exact ⟨rfl, L2, S2, sv3, HF.out⟩
theorem NumAt.base {α : Type} {enc : α -> Value} {cl : α -> List Value} {Gd : Value -> Prop} {tN tE : TypeId} {size : Nat} {w : World} {lo lo' nb mb : Nat} {sv : Value} {vs : List α} (h : NumAt enc cl Gd tN tE size w lo nb mb sv vs) (hl : lo' <= lo) : NumAt enc cl Gd tN tE size w lo' nb mb sv vs :=
 ⟨h.blk, h.map, owns_base h.row hl, h.nd, Nat.le_trans hl h.lob, Nat.le_trans hl h.lom⟩
structure UOk (U : List ByteArray) : Prop where
 none : noneB ∈ U
 len : U.length <= 8000
 size : ∀ r ∈ U, r.size <= maxLen
def S00 : TS := ⟨[], [noneB], []⟩
theorem ties_new {U : List ByteArray} (hU : UOk U) {xs : List ByteArray} {mb : Nat} {w w1 w2 w3 : World} (hr : RulesN w mb xs) {nt mt : Nat} {st : Value} {nr mr : Nat} {sr : Value} {nu mu : Nat} {su : Value}
  (h1 : NumNd w1 w.heap.size nt mt st []) (b1 : Below w.heap.size w w1) (h2 : NumSt Value.string w2 w1.heap.size nr mr sr [noneB]) (b2 : Below w1.heap.size w1 w2) (h3 : NumNd w3 w2.heap.size nu mu su []) (b3 : Below w2.heap.size w2 w3) :
  Bld U [] xs w.heap.size (w3.heap.size + 2) (fun _ => none) (fun _ => 0) ⟨mb, nt, mt, st, nr, mr, sr, nu, mu, su, w3.heap.size, w3.heap.size + 1⟩ S00 w (((w3.alloc (.map #[] 0)).alloc (.map #[] 0)).alloc (.cells (tieL ⟨mb, nt, mt, st, nr, mr, sr, nu, mu, su, w3.heap.size, w3.heap.size + 1⟩).toArray 182)) := by
 have z1 := b1.size
 have z2 := b2.size
 have z3 := b3.size
 have s4 : (w3.alloc (.map #[] 0)).heap.size = w3.heap.size + 1 := by show (w3.heap.push _).size = _; simp
 have s5 : ((w3.alloc (.map #[] 0)).alloc (.map #[] 0)).heap.size = w3.heap.size + 2 := by show ((w3.alloc (.map #[] 0)).heap.push _).size = _; rw [Array.size_push, s4]
 have b4 : Below w3.heap.size w3 (((w3.alloc (.map #[] 0)).alloc (.map #[] 0)).alloc (.cells (tieL ⟨mb, nt, mt, st, nr, mr, sr, nu, mu, su, w3.heap.size, w3.heap.size + 1⟩).toArray 182)) := by repeat (first | exact Below.refl _ _ | refine Below.setCell ?_ (by first | exact Nat.le_refl _ | (simp; done) | (simp; omega)) _ | refine below_drewN ?_ _ | refine Below.drew ?_ | refine Below.alloc ?_ (by first | exact Nat.le_refl _ | (simp; done) | (simp; omega)) _)
 obtain ⟨W, hW⟩ : ∃ W, ((w3.alloc (.map #[] 0)).alloc (.map #[] 0)).alloc (.cells (tieL ⟨mb, nt, mt, st, nr, mr, sr, nu, mu, su, w3.heap.size, w3.heap.size + 1⟩).toArray 182) = W := ⟨_, rfl⟩
 have hblk : W.heap[w3.heap.size + 2]? = some (.cells (tieL ⟨mb, nt, mt, st, nr, mr, sr, nu, mu, su, w3.heap.size, w3.heap.size + 1⟩).toArray 182 (0, 0)) := by
  rw [← hW, ← s5]; exact alloc_new _ _ _
 have hE : EntAt W CxG w3.heap.size [] := by
  rw [← hW]
  refine ((EntAt.new w3 CxG).move ?_)
  rw [Below.heap_alloc _ _ _ (by rw [s5]; omega), Below.heap_alloc _ _ _ (by rw [s4]; omega)]
 have hM : MapAt W CxG (w3.heap.size + 1) [] := by
  rw [← hW, ← s4]
  refine ((MapAt.new (w3.alloc (.map #[] 0)) CxG).move ?_)
  rw [Below.heap_alloc _ _ _ (by rw [s5, s4]; omega)]
 rw [hW] at b4 ⊢
 have b24 : Below w2.heap.size w2 W := b3.trans (b4.mono z3)
 have b14 : Below w1.heap.size w1 W := b2.trans (b24.mono z2)
 have b04 : Below w.heap.size w W := b1.trans (b14.mono z1)
 have hmb : mb < w.heap.size := by obtain ⟨m, lor, hm, -⟩ := hr; exact hm.lt
 have hmt := h1.map.lt
 have hmr := h2.map.lt
 have hmu := h3.map.lt
 have hmr2 := h2.lom
 have hmu2 := h3.lom
 have hmt2 := h1.lom
 have ok : TS.Ok U S00 := ⟨by simp [S00], hU.len, by simp [S00], fun r hr => by simp [S00] at hr; rw [hr]; exact hU.none, ⟨[], rfl⟩, fun x hx => by simp [S00] at hx, fun x hx => by simp [S00] at hx, hU.size⟩
 refine ⟨⟨⟨hblk, ((h1.keep (X := fun _ => False) (Frm.of_below b14) (fun _ _ e => e))), ((h2.keep (X := fun _ => False) (Frm.of_below b24) (fun _ _ e => e)).base z1), ((h3.keep (X := fun _ => False) (Frm.of_below b4) (fun _ _ e => e)).base (Nat.le_trans z1 z2)), ⟨[], hE, fun p hp => by simp at hp, fun x _ => rfl, fun x _ => rfl⟩, ⟨[], hM, fun p hp => by simp at hp, fun x _ => rfl, fun x _ => rfl, fun p hp => by simp at hp⟩, ok, ?_, ?_, ?_, by omega, by show w.heap.size <= w3.heap.size; omega, by show w.heap.size <= w3.heap.size + 1; omega⟩, ⟨(fun x v hv => by cases hv), (fun x _ => rfl), (fun t ht => by simp at ht), (fun x y v u k hv => by cases hv)⟩, hr.below b04, Nat.le_refl _, by simp⟩, b04, fun u => by simp [S00], by simp [S00], by simp [S00], fun y _ i _ => by simp [S00], fun y _ => rfl, fun y => by simp⟩
 ·show [mb, mt, mr, mu, w3.heap.size, w3.heap.size + 1].Nodup
  simp only [List.nodup_cons, List.mem_cons, List.not_mem_nil, or_false, not_or, not_false_eq_true, List.nodup_nil, and_true]
  refine ⟨⟨?_, ?_, ?_, ?_, ?_⟩, ⟨?_, ?_, ?_, ?_⟩, ⟨?_, ?_, ?_⟩, ⟨?_, ?_⟩, ?_⟩ <;> omega
 ·show nt ≠ nu
  have := row_lt h1.blk; have := h3.lob; omega
 ·intro k hk e
  have := (owns_lt h1.row k hk).1
  have := (owns_lt h3.row k e).2.1
  omega
def tupL (x y : Nod) : List Value := [.string x.k, .string x.n, .string x.r, .string y.k, .string y.n, .string y.r]
structure AdMid (U : List ByteArray) (ts : List (Nod × Nod)) (xs : List ByteArray) (lo tb : Nat) (f : Nod -> Option Value) (who : Nod -> Nat) (L : TL) (S : TS) (w0 w : World) (x y : Nod) (n : Nat) (L2 : TL) (S2 : TS) (wx : World) : Prop where
 ta : TA U ts xs lo tb wx.heap.size f who L2 S2 wx
 b : Below lo w0 wx
 loc : L2 = { L with st := L2.st, sr := L2.sr }
 uss : S2.uss = S.uss
 le : S.le S2
 tl : S2.ths.length <= S.ths.length + n
 bx : wx.heap[w.heap.size]? = some (.cells (tupL x y).toArray 146 (0, 0))
theorem AdMid.next {U : List ByteArray} {ts : List (Nod × Nod)} {xs : List ByteArray} {lo tb : Nat} {f : Nod -> Option Value} {who : Nod -> Nat} {L : TL} {S : TS} {w0 w : World} {x y : Nod} {n : Nat} {L2 : TL} {S2 : TS} {wx : World} (h : AdMid U ts xs lo tb f who L S w0 w x y n L2 S2 wx) (HN : NodeC) {z : Nod} (hz : okNd z) (hr : z.r ∈ U) (hl : S.ths.length + n < 4000) {w1 : World} (hb1 : Below wx.heap.size wx w1) :
  Calls Tryz.prog 86 #[.pointer (some ⟨tb, 0, none⟩), .agg #[.string z.k, .string z.n, .string z.r]] w1 fun e w' => ∃ L' S', e = .returned (cxN S' z) /\ Kn S' z /\ AdMid U ts xs lo tb f who L S w0 w x y (n + 1) L' S' w' /\ S2.le S' := by
 have ta1 : TA U ts xs lo tb w1.heap.size f who L2 S2 w1 := by
  have := h.ta.below hb1
  exact ⟨this.t, this.s.size hb1.size, this.r, Nat.le_refl _, this.tn⟩
 have hlo := ta1.lo
 refine (HN ta1.t z hz hr (by have := h.tl; omega) hlo).mono ?_
 rintro e w' ⟨L', S', he, kz, r⟩
 refine ⟨L', S', he, kz, ⟨ta1.nstep r, NStep.below ta1.t (h.b.trans (hb1.mono h.ta.lo)) r, ?_, r.uss.trans h.uss, h.le.trans r.le, by have := r.tl; have := h.tl; omega, ?_⟩, r.le⟩
 ·have h1 := h.loc
  have h2 := r.loc
  rw [h1] at h2
  exact h2
 ·have hb : w1.heap[w.heap.size]? = some (.cells (tupL x y).toArray 146 (0, 0)) := (hb1.block _ (row_lt h.bx)).trans h.bx
  rw [r.fr.block _ (row_lt hb) (fun e => ?_)]
  ·exact hb
  ·rcases e with e | e
   ·rcases ta1.t.th.kind e hb with e | e <;> revert e <;> decide
   ·rcases ta1.t.rl.kind e hb with e | e <;> revert e <;> decide
theorem add_any (HN : Hid NodeC) {U : List ByteArray} {ts : List (Nod × Nod)} {xs : List ByteArray} {lo tb : Nat} {f : Nod -> Option Value} {who : Nod -> Nat} {L : TL} {S : TS} {w0 w : World} (h : Bld U ts xs lo tb f who L S w0 w) (hl : ts.length < 50) {x y : Nod} (hx : okNd x) (hy : okNd y) (rx : x.r ∈ U) (ry : y.r ∈ U) :
  Calls Tryz.prog 134 #[.pointer (some ⟨tb, 0, none⟩), .agg #[.string x.k, .string x.n, .string x.r, .string y.k, .string y.n, .string y.r]] w fun e w' => e = .returned (.tuple #[]) /\ ∃ f' who' L' S', Bld U (ts ++ [(x, y)]) xs lo tb f' who' L' S' w0 w' := by
 have htl := h.tl
 have HB : Hid (Bld U ts xs lo tb f who L S w0 w) := h
 have H0 : Hid (∀ w1, Below w.heap.size w w1 -> w1.heap[w.heap.size]? = some (.cells (tupL x y).toArray 146 (0, 0)) -> AdMid U ts xs lo tb f who L S w0 w x y 0 L S w1) := by
  intro w1 hb1 hbx
  have := h.ta.below hb1
  exact ⟨⟨this.t, this.s.size hb1.size, this.r, Nat.le_refl _, this.tn⟩, h.b.trans (hb1.mono h.ta.lo), rfl, rfl, TS.le.refl _, Nat.le_refl _, hbx⟩
 have HX : Hid (∀ w1, Below w.heap.size w w1 -> w1.heap[w.heap.size]? = some (.cells (tupL x y).toArray 146 (0, 0)) -> Calls Tryz.prog 86 #[.pointer (some ⟨tb, 0, none⟩), .agg #[.string x.k, .string x.n, .string x.r]] w1 fun e w' => ∃ L' S', e = .returned (cxN S' x) /\ Kn S' x /\ AdMid U ts xs lo tb f who L S w0 w x y 1 L' S' w') := by
  intro w1 hb1 hbx
  refine ((H0.out w1 hb1 hbx).next HN.out hx rx (by omega) (Below.refl _ _)).mono ?_
  rintro e w' ⟨L', S', he, k, hm, -⟩
  exact ⟨L', S', he, k, hm⟩
 have HY : Hid (∀ L1 S1 w1, AdMid U ts xs lo tb f who L S w0 w x y 1 L1 S1 w1 -> Kn S1 x -> Calls Tryz.prog 86 #[.pointer (some ⟨tb, 0, none⟩), .agg #[.string y.k, .string y.n, .string y.r]] w1 fun e w' => ∃ L' S', e = .returned (cxN S' y) /\ Kn S' y /\ Kn S' x /\ cxN S' x = cxN S1 x /\ AdMid U ts xs lo tb f who L S w0 w x y 2 L' S' w') := by
  intro L1 S1 w1 hm k1
  refine (hm.next HN.out hy ry (by omega) (Below.refl _ _)).mono ?_
  rintro e w' ⟨L', S', he, k, hm', hle⟩
  exact ⟨L', S', he, k, k1.le hle, cxN_le hle k1, hm'⟩
 have HBX := alloc_new w (tupL x y) 146
 clear h htl H0
 go_enter Tryz.func134, Tryz.ntmps134
 go_wp2
 go_cut [4, 5] from 6 to 13 (fun cx cy wx => ∃ (L2 : TL) (S2 : TS), cx = cxN S2 x /\ cy = cxN S2 y /\ Kn S2 x /\ Kn S2 y /\ AdMid U ts xs lo tb f who L S w0 w x y 2 L2 S2 wx)
 case first =>
  go_region_with (first
   | (go_at_call 86; refine (HX.out _ (by repeat (first | exact Below.refl _ _ | refine Below.setCell ?_ (by first | exact Nat.le_refl _ | (simp; done) | (simp; omega)) _ | refine below_drewN ?_ _ | refine Below.drew ?_ | refine Below.alloc ?_ (by first | exact Nat.le_refl _ | (simp; done) | (simp; omega)) _)) (by first | exact HBX | (show (World.drewN _ _).heap[w.heap.size]? = _; exact HBX) | (show (World.drew _).heap[w.heap.size]? = _; exact HBX))).mono ?_; clear HX; rintro e w1 ⟨L1, S1, rfl, k1, hm1⟩; have b3 := row_cell hm1.bx (j := 3) rfl; have b4 := row_cell hm1.bx (j := 4) rfl; have b5 := row_cell hm1.bx (j := 5) rfl; have HM1 : Hid (AdMid U ts xs lo tb f who L S w0 w x y 1 L1 S1 w1) := hm1; have HK1 : Hid (Kn S1 x) := k1; clear hm1 k1; obtain ⟨c1, hc1⟩ : ∃ c1, cxN S1 x = c1 := ⟨_, rfl⟩; have HC1 : Hid (cxN S1 x = c1) := hc1; rw [hc1]; clear hc1)
   | (go_at_call 86; refine (HY.out L1 S1 _ HM1.out HK1.out).mono ?_; clear HY; rintro e w2 ⟨L2, S2, rfl, ky, kx, hxx, hm2⟩; have HM2 : Hid (AdMid U ts xs lo tb f who L S w0 w x y 2 L2 S2 w2) := hm2; have HK2 : Hid (Kn S2 x /\ Kn S2 y) := ⟨kx, ky⟩; have HXX : Hid (cxN S2 x = cxN S1 x) := hxx; clear hm2 kx ky hxx; obtain ⟨c2, hc2⟩ : ∃ c2, cxN S2 y = c2 := ⟨_, rfl⟩; have HC2 : Hid (cxN S2 y = c2) := hc2; rw [hc2]; clear hc2))
  all_goals (go_wp2_with fail; go_meet)
  all_goals exact ⟨L2, S2, by rw [HXX.out, HC1.out], by rw [HC2.out], HK2.out.1, HK2.out.2, HM2.out⟩
 case rest =>
  obtain ⟨L2, S2, rfl, rfl, kx, ky, hm⟩ := hcut
  obtain ⟨p, q, hpq⟩ : ∃ p q, cxN S2 y = .complex .f64 p q := ⟨_, _, rfl⟩
  obtain ⟨v, st, w1, r1, ⟨vo, vn, vc, rfl⟩, v', w2, r2, ⟨vo', vn', vc', rfl⟩, w3, r3, f', t3, s3, rr3, fr3, kC⟩ := sub_next hm.ta.t hm.ta.s (by omega) hm.ta.r kx ky hpq
  have ta3 : TA U (ts ++ [(x, y)]) xs lo tb w3.heap.size f' who L2 S2 w3 := ⟨t3, s3, rr3, Nat.le_refl _, by rw [List.length_append]; simp; omega⟩
  have b3 : Below lo w0 w3 := Frm.below hm.b fr3 hm.ta.lo fun _ _ e => e
  have c4 := row_cell hm.ta.t.blk (j := 4) rfl
  have c4a := fun o => row_cell (alloc_row hm.ta.t.blk o) (j := 4) rfl
  have hth := fun w => cxThing_any (S := S2) (U := U) hm.ta.t.ok ky w
  have hbx : w3.heap[w.heap.size]? = some (.cells (tupL x y).toArray 146 (0, 0)) := (kC _ _ _ hm.bx (by decide)).trans hm.bx
  unfold goInt at r1 r3
  rw [hpq] at hth ⊢
  have HTA : Hid (TA U (ts ++ [(x, y)]) xs lo tb w3.heap.size f' who L2 S2 w3) := ta3
  have HB3 : Hid (Below lo w0 w3) := b3
  have HKY : Hid (Kn S2 y /\ cxN S2 y = .complex .f64 p q) := ⟨ky, hpq⟩
  have HTL : Hid (S2.ths.length <= S.ths.length + 2) := hm.tl
  have HUS : Hid (S2.uss = S.uss) := hm.uss
  generalize cxN S2 x = cx at *
  clear hm kx ky hpq t3 s3 rr3 fr3 kC ta3 b3 HX HY HBX
  cases hyt : y.isTh
  ·rw [hyt] at hth
   have HF : Hid (Bld U (ts ++ [(x, y)]) xs lo tb f' who L2 S2 w0 w3) := HB.out.node hyt HTL.out HUS.out HTA.out HB3.out
   clear hyt hbx
   go_wp2_with (first | (at_builtin; refine wpList_app_run rfl (.tmp 19) (.tmp 21) 170 rfl _ _ _ rfl rfl r2 ?_) | (go_at_call 181; refine (hth _).mono ?_; rintro e w4 ⟨rfl, hw4⟩; subst w4))
   go_end0
   exact ⟨rfl, f', who, L2, S2, HF.out⟩
  ·rw [hyt] at hth
   have e3 := row_cell HTA.out.t.blk (j := 3) rfl
   have e5 := row_cell HTA.out.t.blk (j := 5) rfl
   have k3 := row_cell hbx (j := 3) rfl
   have k4 := row_cell hbx (j := 4) rfl
   have k5 := row_cell hbx (j := 5) rfl
   have HUC : Hid (∀ w4, Below w3.heap.size w3 w4 -> Calls Tryz.prog 136 #[.pointer (some ⟨L2.nu, 0, none⟩), .agg #[.string y.k, .string y.n, .string y.r]] w4 fun e w5 => ∃ i : Nat, i < 64 /\ e = .returned (.int .i64 i) /\ w5.cell? ⟨tb, 5, none⟩ = some (.map (some L2.mw)) /\ ∃ w6, (Instr.mapUpdate 180 (.map (some L2.mw)) (.complex .f64 p q) (.int .u64 (2 ^ i : Nat))).run Tryz.prog w5 = .ok () w6 /\ ∃ f' who' L' S', Bld U (ts ++ [(x, y)]) xs lo tb f' who' L' S' w0 w6) := by
    intro w4 hb4
    have ta4 : TA U (ts ++ [(x, y)]) xs lo tb w4.heap.size f' who L2 S2 w4 := by
     have := HTA.out.below hb4
     exact ⟨this.t, this.s.size hb4.size, this.r, Nat.le_refl _, this.tn⟩
    have hul := HB.out.ul
    refine (numNd_any y ta4.t.us hy ta4.lo (by rw [HUS.out]; omega)).mono ?_
    intro e w5 hp
    obtain ⟨he, su', ta5, fr5⟩ := ta4.user hyt hp
    have hix : ixOf (addN S2.uss y) y < 64 := by
     have h1 := ixOf_lt (mem_addN.2 (Or.inr rfl) : y ∈ addN S2.uss y)
     have h2 := addN_len S2.uss y
     rw [HUS.out] at h1 h2 ⊢
     omega
    obtain ⟨w6, r6, ta6, g6, z6⟩ := ta5.put (x := y) HKY.out.1 (2 ^ ixOf (addN S2.uss y) y)
    have hcx : cxN { S2 with uss := addN S2.uss y } y = .complex .f64 p q := HKY.out.2
    rw [hcx] at r6
    have b6 : Below lo w0 w6 := by
     have b5 : Below lo w0 w5 := Frm.below (HB3.out.trans (hb4.mono HTA.out.lo)) fr5 ta4.lo (fun k _ e => (ta4.t.us.lt e).2)
     exact b5.grown g6 ta5.lo (fun j hj => by rw [← Option.some.inj hj]; exact HTA.out.t.low)
    have ew : upd who y (2 ^ ixOf (addN S.uss y) y) = upd who y (2 ^ ixOf (addN S2.uss y) y) := by rw [HUS.out]
    refine ⟨_, hix, he, row_cell ta5.t.blk (j := 5) rfl, w6, r6, f', upd who y (2 ^ ixOf (addN S.uss y) y), { L2 with su := su' }, { S2 with uss := addN S2.uss y }, HB.out.thing hyt HTL.out (by show addN S2.uss y = _; rw [HUS.out]) hl ?_ b6⟩
    rw [ew, z6]
    exact ta6
   clear hyt hbx
   go_wp2_with (first | (at_builtin; refine wpList_app_run rfl (.tmp 19) (.tmp 21) 170 rfl _ _ _ rfl rfl r2 ?_) | (go_at_call 181; refine (hth _).mono ?_; rintro e w4 ⟨rfl, hw4⟩; subst w4))
   go_region_with (first | (go_at_call 136; refine (HUC.out _ (by repeat (first | exact Below.refl _ _ | refine Below.setCell ?_ (by first | exact Nat.le_refl _ | (simp; done) | (simp; omega)) _ | refine below_drewN ?_ _ | refine Below.drew ?_ | refine Below.alloc ?_ (by first | exact Nat.le_refl _ | (simp; done) | (simp; omega)) _))).mono ?_; rintro e w5 ⟨i, hi, rfl, d5, w6, hup, hF⟩; have HF : Hid (∃ f' who' L' S', Bld U (ts ++ [(x, y)]) xs lo tb f' who' L' S' w0 w6) := hF; have hon := fun w => only_any i hi w; clear hF) | (go_at_call 178; refine (hon _).mono ?_; rintro e w7 ⟨rfl, hw7⟩; subst w7; generalize 2 ^ i = pw at *))
   all_goals go_wp2
   all_goals go_end0
   all_goals exact ⟨rfl, HF.out⟩
def ndOf (n : Nd) : Nod := ⟨n.kind, n.name, n.rel⟩
def tpOf (s : ByteArray) : Nod × Nod := (ndOf (tupNode s), ndOf (tupSubj s))
def tsOf (now : List ByteArray) : List (Nod × Nod) := now.map tpOf
structure TupsOk (U now : List ByteArray) : Prop where
 len : now.length <= 50
 ok : ∀ s ∈ now, tupOk s = true /\ s.size <= maxLen
 nd : ∀ s ∈ now, okNd (tpOf s).1 /\ okNd (tpOf s).2 /\ (tpOf s).1.r ∈ U /\ (tpOf s).2.r ∈ U
theorem tsOf_next {now : List ByteArray} {k : Nat} {s : ByteArray} (h : now[k]? = some s) : tsOf (now.take (k + 1)) = tsOf (now.take k) ++ [tpOf s] := by
 unfold tsOf
 rw [takeL_snoc h, List.map_append]; rfl
theorem readTuple_yes (s : ByteArray) (w : World) (hs : s.size <= maxLen) (h : tupOk s = true) : Calls Tryz.prog 98 #[.string s] w fun e w' => e = .returned (.tuple #[.agg #[.string (tpOf s).1.k, .string (tpOf s).1.n, .string (tpOf s).1.r, .string (tpOf s).2.k, .string (tpOf s).2.n, .string (tpOf s).2.r], .bool true]) /\ Below w.heap.size w w' := by
 have key : Value.tuple #[tupVal s, .bool (tupOk s)] = .tuple #[.agg #[.string (tpOf s).1.k, .string (tpOf s).1.n, .string (tpOf s).1.r, .string (tpOf s).2.k, .string (tpOf s).2.n, .string (tpOf s).2.r], .bool true] := by
  unfold tupVal tpOf ndOf
  simp only [h, if_true]
 refine (readTuple_any s w hs).mono ?_
 rintro e w' ⟨he, hb⟩
 exact ⟨he.trans (congrArg Ending.returned key), hb⟩
theorem of_any (HN : Hid NodeC) {U : List ByteArray} (hU : UOk U) {xs now : List ByteArray} {mb : Nat} {tv : Value} {w : World} (hr : RulesN w mb xs) (hnow : StrsAt w tv now) (ht : TupsOk U now) :
  Calls Tryz.prog 84 #[.map (some mb), tv] w fun e w' => ∃ tb f who L S, e = .returned (.pointer (some ⟨tb, 0, none⟩)) /\ Bld U (tsOf now) xs w.heap.size tb f who L S w w' := by
 have hmm1 := fun w1 => run_makeMap (P := Tryz.prog) 179 w1
 have hmm2 := fun w1 => run_makeMap (P := Tryz.prog) 180 w1
 have HR : Hid (RulesN w mb xs) := hr
 have hc1 := cntNd_nil w
 have HC2 : Hid (∀ w1 : World, Calls Tryz.prog 133 #[.slice (some ⟨w1.heap.size, 0, none⟩) 1 1] (w1.alloc (.cells #[.string { data := #[] }] 9)) fun e w2 => ∃ nb mb sv, e = .returned (.pointer (some ⟨nb, 0, none⟩)) /\ NumSt Value.string w2 w1.heap.size nb mb sv [noneB] /\ Below w1.heap.size w1 w2) := by
  intro w1
  refine (cntSt_one noneB (by show (0 : Nat) <= _; omega) w1.heap.size 1 _ (row_cell (alloc_new w1 [Value.string noneB] 9) (j := 0) rfl)).mono ?_
  rintro e w2 ⟨nb, mb, sv, he, hn, hb⟩
  have hb1 : Below w1.heap.size w1 (w1.alloc (.cells #[.string { data := #[] }] 9)) := by repeat (first | exact Below.refl _ _ | refine Below.setCell ?_ (by first | exact Nat.le_refl _ | (simp; done) | (simp; omega)) _ | refine below_drewN ?_ _ | refine Below.drew ?_ | refine Below.alloc ?_ (by first | exact Nat.le_refl _ | (simp; done) | (simp; omega)) _)
  have hz := hb1.size
  exact ⟨nb, mb, sv, he, hn.base hz, hb1.trans (hb.mono hz)⟩
 have HC3 : Hid (∀ w1, Calls Tryz.prog 132 #[.slice none 0 0] w1 (CntPost ndV ndC NodeG 176 75 3 w1 [])) := fun w1 => cntNd_nil w1
 have HNEW : Hid (∀ (w1 w2 w3 : World) (nt mt : Nat) (st : Value) (nr mr : Nat) (sr : Value) (nu mu : Nat) (su : Value), NumNd w1 w.heap.size nt mt st [] -> Below w.heap.size w w1 -> NumSt Value.string w2 w1.heap.size nr mr sr [noneB] -> Below w1.heap.size w1 w2 -> NumNd w3 w2.heap.size nu mu su [] -> Below w2.heap.size w2 w3 ->
  Bld U [] xs w.heap.size (w3.heap.size + 1 + 1) (fun _ => none) (fun _ => 0) ⟨mb, nt, mt, st, nr, mr, sr, nu, mu, su, w3.heap.size, w3.heap.size + 1⟩ S00 w (((w3.alloc (.map #[] 0)).alloc (.map #[] 0)).alloc (.cells #[.map (some mb), .pointer (some ⟨nt, 0, none⟩), .pointer (some ⟨nr, 0, none⟩), .pointer (some ⟨nu, 0, none⟩), .map (some w3.heap.size), .map (some (w3.heap.size + 1))] 182))) :=
  fun w1 w2 w3 nt mt st nr mr sr nu mu su h1 b1 h2 b2 h3 b3 => ties_new hU HR.out h1 b1 h2 b2 h3 b3
 have HT : Hid (TupsOk U now) := ht
 have HNW : Hid (StrsAt w tv now) := hnow
 have hlen := ht.len
 obtain ⟨nn, hnn⟩ : ∃ nn, now.length = nn := ⟨_, rfl⟩
 have HNN : Hid (now.length = nn) := hnn
 have hv : ∃ o c, tv = .slice o nn c := by
  rcases hnow with ⟨rfl, rfl⟩ | ⟨b, off, cap, rfl, -⟩
  ·exact ⟨none, 0, by rw [← hnn]; rfl⟩
  ·exact ⟨_, cap, by rw [hnn]⟩
 obtain ⟨o, c, rfl⟩ := hv
 rw [hnn] at hlen
 clear hr hnow ht hnn hU
 go_enter Tryz.func84, Tryz.ntmps84
 go_wp2_with (first
  | (go_at_call 132; refine hc1.mono ?_; clear hc1; rintro e w1 ⟨nt, mt, st, rfl, hn1, hb1⟩; have HN1 : Hid (NumNd w1 w.heap.size nt mt st [] /\ Below w.heap.size w w1) := ⟨hn1, hb1⟩; clear hn1 hb1)
  | (go_at_call 133; refine (HC2.out _).mono ?_; rintro e w2 ⟨nr, mr, sr, rfl, hn2, hb2⟩; have HN2 : Hid (NumSt Value.string w2 w1.heap.size nr mr sr [noneB] /\ Below w1.heap.size w1 w2) := ⟨hn2, hb2⟩; clear hn2 hb2)
  | (go_at_call 132; refine (HC3.out _).mono ?_; rintro e w3 ⟨nu, mu, su, rfl, hn3, hb3⟩; have HB0 : Hid (Bld U [] xs w.heap.size (w3.heap.size + 1 + 1) (fun _ => none) (fun _ => 0) ⟨mb, nt, mt, st, nr, mr, sr, nu, mu, su, w3.heap.size, w3.heap.size + 1⟩ S00 w (((w3.alloc (.map #[] 0)).alloc (.map #[] 0)).alloc (.cells #[.map (some mb), .pointer (some ⟨nt, 0, none⟩), .pointer (some ⟨nr, 0, none⟩), .pointer (some ⟨nu, 0, none⟩), .map (some w3.heap.size), .map (some (w3.heap.size + 1))] 182))) := HNEW.out w1 w2 w3 nt mt st nr mr sr nu mu su HN1.out.1 HN1.out.2 HN2.out.1 HN2.out.2 hn3 hb3; clear hn3 hb3))
 go_loopw [21] (fun i wr => ∃ (k : Nat) (f : Nod -> Option Value) (who : Nod -> Nat) (L : TL) (S : TS), k <= nn /\ i = .int .i64 k /\ Bld U (tsOf (now.take k)) xs w.heap.size (w3.heap.size + 1 + 1) f who L S w wr) (fun i _ => nn - (intOf i).toNat)
 case atStart => exact ⟨0, _, _, _, _, Nat.zero_le _, rfl, HB0.out⟩
 case round =>
  obtain ⟨k, f, who, L, S, hk, rfl, hB⟩ := hrel
  have HB : Hid (Bld U (tsOf (now.take k)) xs w.heap.size (w3.heap.size + 1 + 1) f who L S w wr) := hB
  clear hB HB0
  by_cases hlt : k < nn
  ·have hkl : k < now.length := by have := HNN.out; omega
   obtain ⟨s, hs⟩ : ∃ s, now[k]? = some s := ⟨_, List.getElem?_eq_getElem hkl⟩
   have hsm := List.mem_of_getElem? hs
   obtain ⟨b, off, ho, hcell⟩ : ∃ b off, o = some ⟨b, off, none⟩ /\ wr.cell? ⟨b, off + k, none⟩ = some (.string s) := by
    rcases HNW.out with ⟨-, e⟩ | ⟨b, off, cap, e, hc⟩
    ·rw [e] at hs; simp at hs
    ·injection e with e
     refine ⟨b, off, e, ?_⟩
     have h1 := hc k s hs
     rw [← h1]; exact HB.out.b.cell (cell_lt h1)
   subst ho
   have hrt := fun w1 => readTuple_yes s w1 (HT.out.ok s hsm).2 (HT.out.ok s hsm).1
   have HAD : Hid (∀ w1, Below wr.heap.size wr w1 -> Calls Tryz.prog 134 #[.pointer (some ⟨w3.heap.size + 1 + 1, 0, none⟩), .agg #[.string (tpOf s).1.k, .string (tpOf s).1.n, .string (tpOf s).1.r, .string (tpOf s).2.k, .string (tpOf s).2.n, .string (tpOf s).2.r]] w1 fun e w' => e = .returned (.tuple #[]) /\ ∃ f' who' L' S', Bld U (tsOf (now.take (k + 1))) xs w.heap.size (w3.heap.size + 1 + 1) f' who' L' S' w w') := by
    intro w1 hb1
    have hB1 : Bld U (tsOf (now.take k)) xs w.heap.size (w3.heap.size + 1 + 1) f who L S w w1 := by
     have h0 := HB.out
     have h1 := h0.ta.below hb1
     exact ⟨⟨h1.t, h1.s.size hb1.size, h1.r, Nat.le_refl _, h1.tn⟩, h0.b.trans (hb1.mono h0.b.size), h0.us, h0.ul, h0.tl, h0.th, h0.no, h0.sm⟩
    obtain ⟨n1, n2, n3, n4⟩ := HT.out.nd s hsm
    have := add_any HN hB1 (by unfold tsOf; rw [List.length_map, List.length_take]; have := HNN.out; omega) n1 n2 n3 n4
    rw [tsOf_next hs]
    exact this
   clear hs hsm hkl
   generalize (tpOf s).1.k = a1 at *
   generalize (tpOf s).1.n = a2 at *
   generalize (tpOf s).1.r = a3 at *
   generalize (tpOf s).2.k = a4 at *
   generalize (tpOf s).2.n = a5 at *
   generalize (tpOf s).2.r = a6 at *
   go_wp2_with (first | (go_at_call 98; refine (hrt _).mono ?_; rintro e w4 ⟨rfl, hb4⟩) | (go_at_call 134; refine (HAD.out _ (hb4.alloc hb4.size _)).mono ?_; rintro e w5 ⟨rfl, f5, who5, L5, S5, hB5⟩; have HB5 : Hid (Bld U (tsOf (now.take (k + 1))) xs w.heap.size (w3.heap.size + 1 + 1) f5 who5 L5 S5 w w5) := hB5; clear hB5))
   go_roundw
   case rel => exact ⟨k + 1, f5, who5, L5, S5, by omega, by go_num, HB5.out⟩
   case measure => simp [intOf]; omega
  ·obtain rfl : k = nn := by omega
   have hB := HB.out
   rw [List.take_of_length_le (by have := HNN.out; omega)] at hB
   have HF : Hid (Bld U (tsOf now) xs w.heap.size (w3.heap.size + 1 + 1) f who L S w wr) := hB
   clear hB
   go_wp2
   go_ret
   exact ⟨_, f, who, L, S, rfl, HF.out⟩
theorem below_res {w wc : World} (hb : Below w.heap.size w wc) (c0 c1 c2 c3 : Value) (o : Obj) : Below w.heap.size w (((((wc.setCell ⟨w.heap.size, 0, none⟩ c0).setCell ⟨w.heap.size, 1, none⟩ c1).setCell ⟨w.heap.size, 2, none⟩ c2).setCell ⟨w.heap.size, 3, none⟩ c3).alloc o).drew :=
 (((((hb.setCell (Nat.le_refl _) c0).setCell (Nat.le_refl _) c1).setCell (Nat.le_refl _) c2).setCell (Nat.le_refl _) c3).alloc (by have := hb.size; simp [World.setCell]; exact this) o).drew
theorem tiesWay_any {U : List ByteArray} {w : World} {lo tb : Nat} {L : TL} {S : TS} {f : Nod -> Option Value} {who : Nod -> Nat} {xs : List ByteArray} (h : TiesAt U w lo tb L S f who) (hr : RulesN w L.mb xs) {x : Nod} (kx : Kn S x) (hk : x.k.size <= maxLen) (hrr : x.r.size <= maxLen) :
  Calls Tryz.prog 204 #[.pointer (some ⟨tb, 0, none⟩), cxN S x] w fun e w' => ∃ is a b y n c, e = .returned (.agg #[.int .i64 is, .string a, .string b, .slice y n c]) /\ WayAt w' (fun _ => True) (ruleN xs x) (.agg #[.int .i64 is, .string a, .string b, .slice y n c]) /\ Below w.heap.size w w' := by
 obtain ⟨m, hm, hway⟩ := hr.look
 have hway := hway x
 obtain ⟨m1, m2⟩ := h.ok.lt kx
 have h1 := ixOf_lt kx.1
 have h2 := ixOf_lt kx.2
 have hcv1 := fun w => run_convert_float_int (P := Tryz.prog) (w := w) 191 3 .f64 .i64 (fb (ixOf S.ths x.th)) (ixOf S.ths x.th) (by rw [Tryz.underlying191]; rfl) Tryz.underlying3 (toIntVal_fb m1)
 have hcv2 := fun w => run_convert_float_int (P := Tryz.prog) (w := w) 191 3 .f64 .i64 (fb (ixOf S.rels x.r)) (ixOf S.rels x.r) (by rw [Tryz.underlying191]; rfl) Tryz.underlying3 (toIntVal_fb m2)
 have e1 : S.ths[ixOf S.ths x.th]? = some x.th := ix_get kx.1
 have e2 : S.rels[ixOf S.rels x.r]? = some x.r := ix_get kx.2
 obtain ⟨tg, tc, hts, htc⟩ := owns_cell h.th.row (by omega)
 obtain ⟨rg, rc, hrs, hrc⟩ := owns_cell h.rl.row (by omega)
 obtain ⟨q1, q2, q3⟩ := flat3 e1
 have t1 := htc _ _ q1
 have t2 := htc _ _ q2
 have t3 := htc _ _ q3
 have q4 : (S.rels.flatMap fun a => [Value.string a])[ixOf S.rels x.r]? = some (.string x.r) := by
  rw [show (S.rels.flatMap fun a => [Value.string a]) = S.rels.map Value.string from by induction S.rels with
   | nil => rfl
   | cons a l ih => simp [List.flatMap_cons, ih]]
  rw [List.getElem?_map, e2]; rfl
 have r1 : w.cell? ⟨rg, ixOf S.rels x.r, none⟩ = some (.string x.r) := hrc _ _ q4
 have cA : ∀ {b j : Nat} {v : Value} (o : Obj), w.cell? ⟨b, j, none⟩ = some v -> (w.alloc o).cell? ⟨b, j, none⟩ = some v := fun o hc => (World.cell?_of_block (Below.heap_alloc _ _ _ (cell_lt hc))).trans hc
 have c0 := row_cell h.blk (j := 0) rfl
 have c1 := row_cell h.blk (j := 1) rfl
 have c2 := row_cell h.blk (j := 2) rfl
 have n1 := row_cell h.th.blk (j := 1) rfl
 have n2 := row_cell h.rl.blk (j := 1) rfl
 rw [hts] at n1
 rw [hrs] at n2
 have cB : ∀ {b j : Nat} {v : Value} (o o' : Obj), w.cell? ⟨b, j, none⟩ = some v -> ((w.alloc o).alloc o').cell? ⟨b, j, none⟩ = some v := fun o o' hc => (World.cell?_of_block (Below.heap_alloc _ _ _ (Nat.lt_of_lt_of_le (cell_lt hc) (by simp)))).trans (cA o hc)
 have c0a := fun o => cA o c0
 have c0b := fun o o' => cB o o' c0
 have c1a := fun o => cA o c1
 have c1b := fun o o' => cB o o' c1
 have c2a := fun o => cA o c2
 have c2b := fun o o' => cB o o' c2
 have n1a := fun o => cA o n1
 have n1b := fun o o' => cB o o' n1
 have n2a := fun o => cA o n2
 have n2b := fun o o' => cB o o' n2
 have t1a := fun o => cA o t1
 have t1b := fun o o' => cB o o' t1
 have t2a := fun o => cA o t2
 have t2b := fun o o' => cB o o' t2
 have t3a := fun o => cA o t3
 have t3b := fun o o' => cB o o' t3
 have r1a := fun o => cA o r1
 have r1b := fun o o' => cB o o' r1
 have l1 := cell_lt c0
 have l2 := cell_lt n1
 have l3 := cell_lt n2
 have l4 := cell_lt t1
 have l5 := cell_lt r1
 have hbl : tb < w.heap.size := row_lt h.blk
 have HBL : Hid (∀ w2, Below w.heap.size w w2 -> w2.cell? ⟨tb, 0, none⟩ = some (.map (some L.mb))) := fun w2 hb => (hb.cell (p := ⟨tb, 0, none⟩) (row_lt h.blk)).trans c0
 have HLK : Hid (∀ w2, Below w.heap.size w w2 -> (Instr.lookup 96 (.map (some L.mb)) (headV x.k x.r) true).run Tryz.prog w2 = .ok (.tuple #[(getM m (headV x.k x.r)).getD (.agg #[.int .i64 0, .string { data := #[] }, .string { data := #[] }, .slice none 0 0]), .bool (getM m (headV x.k x.r)).isSome]) w2) :=
  fun w2 hb2 => (map_look head_ok Tryz.underlying96 (hm.move (hb2.block _ hm.lt)) ⟨x.k, x.r, rfl, hk, hrr⟩ (Tryz.zeroWay w2)).1
 have HW : Hid (∀ w2 v, Below w.heap.size w w2 -> WayAt w (fun _ => True) (ruleN xs x) v -> WayAt w2 (fun _ => True) (ruleN xs x) v) := fun w2 v hb hv => hv.move2 fun g _ hg hc => ⟨hg, hb.block g (row_lt hc)⟩
 clear hts hrs htc hrc q1 q2 q3 q4 hm h e1 e2 hr cA cB
 unfold cxN cxV
 generalize ixOf S.ths x.th = ni at *
 generalize ixOf S.rels x.r = nj at *
 have HLK2 : Hid (∀ w2, Below w.heap.size w w2 -> (Instr.lookup 96 (.map (some L.mb)) (.agg #[.string x.k, .string x.r]) true).run Tryz.prog w2 = .ok (.tuple #[(getM m (headV x.k x.r)).getD (.agg #[.int .i64 0, .string { data := #[] }, .string { data := #[] }, .slice none 0 0]), .bool (getM m (headV x.k x.r)).isSome]) w2) := HLK.out
 have c0c := fun o o' o'' => HBL.out (((w.alloc o).alloc o').alloc o'') (by repeat (first | exact Below.refl _ _ | refine Below.setCell ?_ (by first | exact Nat.le_refl _ | (simp; done) | (simp; omega)) _ | refine below_drewN ?_ _ | refine Below.drew ?_ | refine Below.alloc ?_ (by first | exact Nat.le_refl _ | (simp; done) | (simp; omega)) _))
 have hv : ∃ gi ga gb gy gn gc, (getM m (headV x.k x.r)).getD (.agg #[.int .i64 3, .string noneB, .string noneB, .slice none 0 0]) = .agg #[.int .i64 gi, .string ga, .string gb, .slice gy gn gc] := hway.agg
 have HV : Hid (∃ gi ga gb gy gn gc, (getM m (headV x.k x.r)).getD (.agg #[.int .i64 3, .string noneB, .string noneB, .slice none 0 0]) = .agg #[.int .i64 gi, .string ga, .string gb, .slice gy gn gc]) := hv
 have HWY : Hid (WayAt w (fun _ => True) (ruleN xs x) ((getM m (headV x.k x.r)).getD (.agg #[.int .i64 3, .string noneB, .string noneB, .slice none 0 0]))) := hway
 clear hv hway HLK hk hrr kx
 have HN2 : Hid (∀ o : Obj, (w.alloc o).heap.size = w.heap.size + 1) := fun o => (by show (w.heap.push _).size = _; simp)
 go_enter Tryz.func204, Tryz.ntmps204
 go_wp2
 go_cut [5, 6] from 9 to 32 (fun p5 s6 wx => p5 = .pointer (some ⟨w.heap.size + 1, 0, none⟩) /\ s6 = .string x.r /\ Below w.heap.size w wx /\ wx.heap[w.heap.size]? = some (.cells [Value.int .i64 0, .string { data := #[] }, .string { data := #[] }, .slice none 0 0].toArray 106 (0, 0)) /\ wx.heap[w.heap.size + 1]? = some (.cells [Value.string x.k, .string x.n, .string x.th.r].toArray 75 (0, 0)))
 case first =>
  go_region
  go_wp2_with fail
  go_meet
  refine ⟨rfl, rfl, by repeat (first | exact Below.refl _ _ | refine Below.setCell ?_ (by first | exact Nat.le_refl _ | (simp; done) | (simp; omega)) _ | refine below_drewN ?_ _ | refine Below.drew ?_ | refine Below.alloc ?_ (by first | exact Nat.le_refl _ | (simp; done) | (simp; omega)) _), ?_, ?_⟩
  ·exact alloc_row (alloc_new w [Value.int .i64 0, .string { data := #[] }, .string { data := #[] }, .slice none 0 0] _) _
  ·have := alloc_new (w.alloc (.cells #[Value.int .i64 0, .string { data := #[] }, .string { data := #[] }, .slice none 0 0] 106)) [Value.string x.k, .string x.n, .string x.th.r] 75
   rw [HN2.out] at this
   exact this
 case rest =>
  obtain ⟨rfl, rfl, hbx, hres, hnd⟩ := hcut
  have HRES : Hid (wc.heap[w.heap.size]? = _) := hres
  have HBX : Hid (Below w.heap.size w wc) := hbx
  have d0 := HBL.out wc hbx
  have d0a := fun o => HBL.out (wc.alloc o) (hbx.alloc hbx.size _)
  have e0 := row_cell hnd (j := 0) rfl
  have e0a := fun o => row_cell (alloc_row hnd o) (j := 0) rfl
  have g0 := fun o => row_cell (alloc_row hres o) (j := 0) rfl
  have g1 := fun o => row_cell (alloc_row hres o) (j := 1) rfl
  have g2 := fun o => row_cell (alloc_row hres o) (j := 2) rfl
  have g3 := fun o => row_cell (alloc_row hres o) (j := 3) rfl
  have z0 := fun o => row_frozen (alloc_row hres o) 0
  have z1 := fun o => row_frozen (alloc_row hres o) 1
  have z2 := fun o => row_frozen (alloc_row hres o) 2
  have z3 := fun o => row_frozen (alloc_row hres o) 3
  have g0w := row_cell hres (j := 0) rfl
  have z0w := row_frozen hres 0
  have g1w := row_cell hres (j := 1) rfl
  have z1w := row_frozen hres 1
  have g2w := row_cell hres (j := 2) rfl
  have z2w := row_frozen hres 2
  have g3w := row_cell hres (j := 3) rfl
  have z3w := row_frozen hres 3
  have hlt : w.heap.size < wc.heap.size := row_lt hres
  have hlt2 : w.heap.size + 1 < wc.heap.size := row_lt hnd
  clear n1 n2 t1 t2 t3 r1 c1 c2 n1a n2a t1a t2a t3a r1a c1a c2a n1b n2b t1b t2b t3b r1b c1b c2b hcv1 hcv2 l2 l3 l4 l5 c0 c0a c0b c0c hnd hres hbx
  cases hg : getM m (headV x.k x.r) with
  | none =>
   rw [hg] at HLK2 HWY
   dsimp only [Option.getD_none, Option.isSome_none] at HWY HLK2
   have hlk1 := HLK2.out wc.drew HBX.out.drew
   have hlk2 := HLK2.out (wc.alloc (.cells #[.int .i64 0, .string { data := #[] }, .string { data := #[] }, .slice none 0 0] 106)).drew (HBX.out.alloc HBX.out.size _).drew
   clear hg HV
   go_wp2
   go_region
   all_goals go_wp2
   all_goals have hT := fun o => alloc_row (row4 HRES.out (.int .i64 3) (.string { data := #[] }) (.string { data := #[] }) (.slice none 0 0)) o
   all_goals have hT0 := fun o => row_cell (hT o) (j := 0) rfl
   all_goals have hT1 := fun o => row_cell (hT o) (j := 1) rfl
   all_goals have hT2 := fun o => row_cell (hT o) (j := 2) rfl
   all_goals have hT3 := fun o => row_cell (hT o) (j := 3) rfl
   all_goals refine bodyPost_ret (v := .agg #[.int .i64 3, .string noneB, .string noneB, .slice none 0 0]) (by simp [results, Tryz.results204, go_sem, noneB, hT0, hT1, hT2, hT3]) rfl ⟨3, noneB, noneB, none, 0, 0, rfl, HW.out _ _ ?_ HWY.out, ?_⟩
   all_goals exact below_res HBX.out _ _ _ _ _
  | some u =>
   rw [hg] at HLK2 HWY HV
   dsimp only [Option.getD_some, Option.isSome_some] at HWY HLK2 HV
   obtain ⟨gi, ga, gb, gy, gn, gc, rfl⟩ := HV.out
   have hlk1 := HLK2.out wc.drew HBX.out.drew
   have hlk2 := HLK2.out (wc.alloc (.cells #[.int .i64 0, .string { data := #[] }, .string { data := #[] }, .slice none 0 0] 106)).drew (HBX.out.alloc HBX.out.size _).drew
   clear hg HV
   go_wp2
   go_region
   all_goals go_wp2
   all_goals have hT := fun o => alloc_row (row4 HRES.out (.int .i64 gi) (.string ga) (.string gb) (.slice gy gn gc)) o
   all_goals have hT0 := fun o => row_cell (hT o) (j := 0) rfl
   all_goals have hT1 := fun o => row_cell (hT o) (j := 1) rfl
   all_goals have hT2 := fun o => row_cell (hT o) (j := 2) rfl
   all_goals have hT3 := fun o => row_cell (hT o) (j := 3) rfl
   all_goals refine bodyPost_ret (v := .agg #[.int .i64 gi, .string ga, .string gb, .slice gy gn gc]) (by simp [results, Tryz.results204, go_sem, hT0, hT1, hT2, hT3]) rfl ⟨gi, ga, gb, gy, gn, gc, rfl, HW.out _ _ ?_ HWY.out, ?_⟩
   all_goals exact below_res HBX.out _ _ _ _ _
end Go.Proofs.YtalmoiogbdahcaaGreat
