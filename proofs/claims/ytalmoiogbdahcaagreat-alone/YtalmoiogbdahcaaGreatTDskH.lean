import Derived.Test.YtalmoiogbdahcaaGreatTSetA
import Derived.Test.YtalmoiogbdahcaaGreatTAskA
import Derived.Test.YtalmoiogbdahcaaGreatTDskT
namespace Go.Proofs.YtalmoiogbdahcaaGreat
set_option maxRecDepth 100000
set_option maxHeartbeats 8000000
open Go.RowKit Go.Shelf
def StepP (xs : List ByteArray) (mr rb : Nat) (P : Nat -> Prop) (t : Tk) (r : Rq) (w w' : World) : Prop :=
 Frm P w w' /\ ∃ fin r' uv' tp', StepR xs t r r' fin /\ RqAt xs mr rb (more P w w') r' uv' tp' w'
structure SMid (xs : List ByteArray) (mr rb kb wb : Nat) (P O : Nat -> Prop) (t : Tk) (r : Rq) (met : List Nod) (w w3 : World) : Prop where
 blk : w3.heap[rb]? = some (.cells (rqL { r with st := r.st + 1 } (.slice none 0 0) (.pointer (some ⟨kb, 0, none⟩))).toArray 161 (0, 0))
 kblk : w3.heap[kb]? = some (.cells (tkL t wb).toArray 115 (0, 0))
 wk : WkAt xs t.now t.x mr O wb met (r.st + 1) w3
 fr : Frm P w w3
 OP : ∀ k, O k -> more P w w3 k
 nr : ¬ O rb
 nk : ¬ O kb
theorem more_le {P : Nat -> Prop} {w w3 w4 : World} (hs : w3.heap.size <= w4.heap.size) {k : Nat} (h : more P w w3 k) : more P w w4 k := by
 rcases h with e | e
 ·exact Or.inl e
 ·exact Or.inr ⟨e.1, Nat.lt_of_lt_of_le e.2 hs⟩
theorem SMid.later {xs : List ByteArray} {mr rb kb wb : Nat} {P O : Nat -> Prop} {t : Tk} {r : Rq} {met : List Nod} {w w3 w4 : World} (h : SMid xs mr rb kb wb P O t r met w w3) (hb : Below w3.heap.size w3 w4) : SMid xs mr rb kb wb P O t r met w w4 :=
 ⟨(hb.block _ (row_lt h.blk)).trans h.blk, (hb.block _ (row_lt h.kblk)).trans h.kblk, h.wk.below hb, h.fr.trans (Frm.of_below (X := fun _ => False) hb) (fun _ _ e => e.elim), fun k e => more_le hb.size (h.OP k e), h.nr, h.nk⟩
theorem SMid.answer (HW : Hid TWayC) {xs : List ByteArray} {mr rb kb wb : Nat} {P O : Nat -> Prop} {t : Tk} {r : Rq} {met : List Nod} {w w3 : World} (h : SMid xs mr rb kb wb P O t r met w w3) {uv tp : Value} (h0 : RqAt xs mr rb P r uv tp w) (ht : r.tk = some t) (sy : t.y.k.size + 1 + t.y.n.size <= maxLen) (he : r.st + 1 = met.length) :
  Calls Tryz.prog 164 #[.pointer (some ⟨rb, 0, none⟩)] w3 fun e w' => e = .returned (.tuple #[]) /\ StepP xs mr rb P t r w w' := by
 obtain ⟨al0, us0, -⟩ := h0.fresh (by rw [ht]; simp)
 refine (rqAnswer_any HW h.blk h.kblk h.wk h.nr sy al0 us0).mono ?_
 rintro e w' ⟨rfl, al, us, uv', ha, hul, hb', hf', hu⟩
 have hf : Frm P w w' := h.fr.trans hf' fun j hj e => by
  rcases e with e | e
  ·rcases h.OP j e with e | e
   ·exact e
   ·omega
  ·rw [e]; exact h0.rP
 refine ⟨rfl, hf, true, ⟨3, r.st + 1, al, us, none⟩, uv', .pointer none, ⟨fun n hn => ⟨fun _ => (h.wk.cost hn).2 he, fun e => by cases e⟩, fun _ => h.wk.allN he, fun _ => ⟨rfl, rfl, rfl, ha⟩, (fun e => by cases e), (fun e => by cases e)⟩, ?_⟩
 have hmore : ∀ k, more P w w' k -> k < w'.heap.size := fun k e => by
  rcases e with e | e
  ·exact Nat.lt_of_lt_of_le (h0.lt k e) hf.size
  ·exact e.2
 have hsl := h.wk.gl.2
 refine ⟨hb', ?_, ?_, fun _ => rfl, (fun t e => by cases e), ⟨fun _ => by show ¬ ((3 : Int) = 1 \/ (3 : Int) = 2); decide, fun _ => rfl⟩, fun e => absurd rfl e, Or.inl h0.rP, hmore, by show r.st + 1 <= 32000000; omega, hul, by show (1 : Int) <= 3; decide, by show (3 : Int) <= 6; decide⟩
 ·rcases hu with ⟨rfl, rfl⟩ | ⟨h1, -⟩
  ·exact Or.inl ⟨rfl, rfl⟩
  ·exact h1
 ·intro k hk
  rcases hu with ⟨rfl, -⟩ | ⟨h1, h2⟩
  ·cases hk
  ·have h3 := h2 k hk
   have h4 := h.fr.size
   refine ⟨Or.inr ⟨by omega, (strT_own h1 k hk).1⟩, fun e => ?_⟩
   have := h0.lt _ h0.rP
   omega
theorem SMid.on {xs : List ByteArray} {mr rb kb wb : Nat} {P O : Nat -> Prop} {t : Tk} {r : Rq} {met : List Nod} {w w3 : World} (h : SMid xs mr rb kb wb P O t r met w w3) {uv tp : Value} (h0 : RqAt xs mr rb P r uv tp w) (ht : r.tk = some t) (hkP : P kb) {O0 : Nat -> Prop} {met0 : List Nod} (hT : TkAt xs mr kb O0 wb met0 t r.st w) (he : r.st + 1 ≠ met.length) (hb : (r.st : Int) + 1 ≠ t.bud) : StepP xs mr rb P t r w w3 := by
 obtain ⟨al0, us0, hu0⟩ := h0.fresh (by rw [ht]; simp)
 have hgl := h.wk.gl
 refine ⟨h.fr, false, { r with st := r.st + 1 }, .slice none 0 0, .pointer (some ⟨kb, 0, none⟩), ⟨fun n hn => ⟨fun e => by (cases e), fun _ => ?_⟩, (fun e => by cases e), (fun e => by cases e), fun _ e => absurd e hb, fun _ _ => rfl⟩, ?_⟩
 ·have := (h.wk.cost hn).1; omega
 ·refine ⟨h.blk, Or.inl ⟨rfl, us0⟩, (fun k e => by cases e), (fun e => by rw [show ({ r with st := r.st + 1 } : Rq).tk = r.tk from rfl, ht] at e; cases e), fun t' e => ?_, h0.live, fun _ => ⟨al0, us0, rfl⟩, Or.inl h0.rP, fun k e => ?_, by show r.st + 1 <= 32000000; omega, h0.ul, h0.is0, h0.is9⟩
  ·have e2 : r.tk = some t' := e
   rw [ht] at e2
   injection e2 with e2
   subst e2
   have hbd := hT.bd
   exact ⟨kb, wb, O, met, rfl, Or.inl hkP, h.OP, h.nr, h.kblk, h.wk, h.nk, by show r.st + 1 < met.length; omega, hT.sy, by show ((r.st + 1 : Nat) : Int) < t.bud; omega, hT.b9, hT.t0, hT.t9⟩
  ·rcases e with e | e
   ·exact Nat.lt_of_lt_of_le (h0.lt k e) h.fr.size
   ·exact e.2
theorem SMid.budget {xs : List ByteArray} {mr rb kb wb : Nat} {P O : Nat -> Prop} {t : Tk} {r : Rq} {met : List Nod} {w w3 : World} (h : SMid xs mr rb kb wb P O t r met w w3) {uv tp : Value} (h0 : RqAt xs mr rb P r uv tp w) (ht : r.tk = some t) (he : r.st + 1 ≠ met.length) (hb : (r.st : Int) + 1 = t.bud) :
  Calls Tryz.prog 115 #[.pointer (some ⟨rb, 0, none⟩), .int .i64 4] w3 fun e w' => e = .returned (.tuple #[]) /\ StepP xs mr rb P t r w w' := by
 obtain ⟨al0, us0, hu0⟩ := h0.fresh (by rw [ht]; simp)
 have hgl := h.wk.gl
 refine (rqEnd_any h.blk 4).mono ?_
 rintro e w' ⟨rfl, hb', hf', -⟩
 have hf : Frm P w w' := h.fr.trans hf' fun j hj e => by rw [e]; exact h0.rP
 refine ⟨rfl, hf, false, { r with st := r.st + 1, is := 4, tk := none }, .slice none 0 0, .pointer none, ⟨fun n hn => ⟨fun e => by (cases e), fun _ => ?_⟩, (fun e => by cases e), (fun e => by cases e), fun _ _ => rfl, fun _ e => absurd hb e⟩, ?_⟩
 ·have := (h.wk.cost hn).1; omega
 ·refine ⟨hb', Or.inl ⟨rfl, us0⟩, (fun k e => by cases e), fun _ => rfl, (fun t e => by cases e), ⟨fun _ => by show ¬ ((4 : Int) = 1 \/ (4 : Int) = 2); decide, fun _ => rfl⟩, fun e => absurd rfl e, Or.inl h0.rP, fun k e => ?_, by show r.st + 1 <= 32000000; omega, h0.ul, by show (1 : Int) <= 4; decide, by show (4 : Int) <= 6; decide⟩
  rcases e with e | e
  ·exact Nat.lt_of_lt_of_le (h0.lt k e) hf.size
  ·exact e.2
theorem rqStep_any (HW : Hid TWayC) {xs : List ByteArray} {mr rb : Nat} {P R : Nat -> Prop} {r : Rq} {uv tp : Value} {w : World} (h : RqAt xs mr rb P r uv tp w) {t : Tk} (ht : r.tk = some t) (K : Kpt R (fun w => RulesN w mr xs) w) (hR : ∀ k, R k -> ¬ P k) :
  Calls Tryz.prog 112 #[.pointer (some ⟨rb, 0, none⟩)] w fun e w' => e = .returned (.tuple #[]) /\ StepP xs mr rb P t r w w' := by
 obtain ⟨kb, wb, O, met, rfl, hkP, hOP, hnr, hT⟩ := h.tk t ht
 obtain ⟨al0, us0, rfl⟩ := h.fresh (by rw [ht]; simp)
 have hlt := row_lt h.blk
 have hne : kb ≠ rb := by
  intro e
  have h1 := hT.blk
  rw [e, h.blk] at h1
  injection h1 with h1
  injection h1 with _ h1
  revert h1; decide
 have hb1 : (w.setCell ⟨rb, 1, none⟩ (.int .i64 ((r.st : Int) + 1))).heap[rb]? = some (.cells (rqL { r with st := r.st + 1 } (.slice none 0 0) (.pointer (some ⟨kb, 0, none⟩))).toArray 161 (0, 0)) := row_set h.blk 1 _
 have hf1 := frm_set w rb 1 (.int .i64 ((r.st : Int) + 1))
 have hk1 : (w.setCell ⟨rb, 1, none⟩ (.int .i64 ((r.st : Int) + 1))).heap[kb]? = _ := (hf1.block kb (row_lt hT.blk) hne).trans hT.blk
 have hw1 : WkAt xs t.now t.x mr O wb met r.st (w.setCell ⟨rb, 1, none⟩ (.int .i64 ((r.st : Int) + 1))) := hT.wk.keep hf1.size (fun k e => hf1.block k (hT.wk.lt k e) fun e2 => hnr (e2 ▸ e)) (K.frm hf1 fun k hk e => hR k hk (e ▸ h.rP)).now
 have HST : Hid (Calls Tryz.prog 140 #[.pointer (some ⟨wb, 0, none⟩)] (w.setCell ⟨rb, 1, none⟩ (.int .i64 ((r.st : Int) + 1))) fun e w2 => e = .returned (.tuple #[]) /\ w2.cell? ⟨rb, 4, none⟩ = some (.pointer (some ⟨kb, 0, none⟩)) /\ w2.cell? ⟨kb, 6, none⟩ = some (.pointer (some ⟨wb, 0, none⟩)) /\ Hid (Calls Tryz.prog 139 #[.pointer (some ⟨wb, 0, none⟩)] w2 fun e w3 => ∃ fin : Bool, e = .returned (.bool fin) /\ Hid (w3.cell? ⟨rb, 1, none⟩ = some (.int .i64 ((r.st : Int) + 1)) /\ w3.cell? ⟨rb, 4, none⟩ = some (.pointer (some ⟨kb, 0, none⟩)) /\ w3.cell? ⟨kb, 7, none⟩ = some (.int .i64 t.bud)) /\ Hid (fin = true -> Calls Tryz.prog 164 #[.pointer (some ⟨rb, 0, none⟩)] w3 fun e w' => e = .returned (.tuple #[]) /\ StepP xs mr rb P t r w w') /\ Hid (fin = false -> ∀ w4, Below w3.heap.size w3 w4 -> ((r.st : Int) + 1 = t.bud -> Calls Tryz.prog 115 #[.pointer (some ⟨rb, 0, none⟩), .int .i64 4] w4 fun e w' => e = .returned (.tuple #[]) /\ StepP xs mr rb P t r w w') /\ ((r.st : Int) + 1 ≠ t.bud -> StepP xs mr rb P t r w w4)))) := by
  refine (hw1.step HW hT.lt).mono ?_
  rintro e w2 ⟨rfl, hf2, met', hw2⟩
  have hb2 := (hf2.block rb (row_lt hb1) hnr).trans hb1
  have hk2 := (hf2.block kb (row_lt hk1) hT.nO).trans hk1
  have hz1 := setSz w ⟨rb, 1, none⟩ (.int .i64 ((r.st : Int) + 1))
  have hlk := row_lt hT.blk
  have hm : SMid xs mr rb kb wb P (more O (w.setCell ⟨rb, 1, none⟩ (.int .i64 ((r.st : Int) + 1))) w2) t r met' w w2 := by
   refine ⟨hb2, hk2, hw2, (hf1.mono fun k _ e => e ▸ h.rP).trans hf2 fun k _ e => hOP k e, fun k e => ?_, fun e => ?_, fun e => ?_⟩
   ·rcases e with e | e
    ·exact Or.inl (hOP k e)
    ·exact Or.inr ⟨by omega, e.2⟩
   ·rcases e with e | e
    ·exact hnr e
    ·omega
   ·rcases e with e | e
    ·exact hT.nO e
    ·omega
  refine ⟨rfl, row_cell hb2 (j := 4) rfl, row_cell hk2 (j := 6) rfl, ?_⟩
  refine hw2.ended.mono ?_
  rintro e w3 ⟨rfl, hb3⟩
  have hm3 := hm.later hb3
  refine ⟨_, rfl, ⟨row_cell hm3.blk (j := 1) rfl, row_cell hm3.blk (j := 4) rfl, row_cell hm3.kblk (j := 7) rfl⟩, fun e => hm3.answer HW h ht hT.sy (of_decide_eq_true e), fun e w4 hb4 => ⟨fun hb => (hm3.later hb4).budget h ht (of_decide_eq_false e) hb, fun hb => (hm3.later hb4).on h ht hkP hT (of_decide_eq_false e) hb⟩⟩
 have c1 := row_cell h.blk (j := 1) rfl
 have z1 := row_frozen h.blk 1
 have hd4 := row_cell hb1 (j := 4) rfl
 have hd6 := row_cell hk1 (j := 6) rfl
 have hsl := h.sl
 generalize StepP xs mr rb P t r w = PP at *
 generalize t.bud = bud at *
 generalize r.st = st at *
 clear h ht K hR hT hOP hnr al0 us0 hb1 hf1 hk1 hw1 HW hkP hne
 go_enter Tryz.func112, Tryz.ntmps112
 go_wp2_with (first | (go_at_call 140; refine HST.out.mono ?_; rintro e w2 ⟨rfl, e4, e6, HEN⟩; clear HST hd4 hd6) | (go_at_call 139; refine HEN.out.mono ?_; rintro e w3 ⟨fin, rfl, HC3, HA, HB⟩; clear HEN e4 e6) | (go_at_call 164; refine (Calls.mono (HA.out (by assumption))) ?_; rintro e w5 ⟨rfl, hp⟩; have HP : Hid (PP w5) := hp; clear hp))
 ·go_end0
  exact ⟨rfl, HP.out⟩
 ·have hfin : fin = false := by assumption
  obtain ⟨f1, f4, f7⟩ := HC3.out
  have HB2 : Hid (∀ (w4 : World), Below w3.heap.size w3 w4 -> (((st : Int) + 1 = bud) -> Calls Tryz.prog 115 #[.pointer (some ⟨rb, 0, none⟩), .int .i64 4] w4 fun e w' => e = .returned (.tuple #[]) /\ PP w') /\ ((st : Int) + 1 ≠ bud -> PP w4)) := HB.out hfin
  clear HA HB HC3 c1 z1
  by_cases hbd : (st : Int) + 1 = bud
  ·have hq : ((st : Int) + 1 == bud) = true := by simp [hbd]
   have HE : Hid (∀ w4, Below w3.heap.size w3 w4 -> Calls Tryz.prog 115 #[.pointer (some ⟨rb, 0, none⟩), .int .i64 4] w4 fun e w' => e = .returned (.tuple #[]) /\ PP w') := fun w4 hb => (HB2.out w4 hb).1 hbd
   clear HB2 hbd
   go_region
   all_goals go_wp2_with (go_at_call 115; refine (Calls.mono (HE.out _ (by repeat (first | exact Below.refl _ _ | refine Below.setCell ?_ (by first | exact Nat.le_refl _ | (simp; done) | (simp; omega)) _ | refine below_drewN ?_ _ | refine Below.drew ?_ | refine Below.alloc ?_ (by first | exact Nat.le_refl _ | (simp; done) | (simp; omega)) _)))) ?_; rintro e w5 ⟨rfl, hp⟩; have HP : Hid (PP w5) := hp; clear hp)
   all_goals go_end0
   all_goals exact ⟨rfl, HP.out⟩
  ·have hq : ((st : Int) + 1 == bud) = false := by simpa using hbd
   have HE : Hid (∀ w4, Below w3.heap.size w3 w4 -> PP w4) := fun w4 hb => (HB2.out w4 hb).2 hbd
   clear HB2 hbd
   go_region
   all_goals go_wp2
   all_goals go_end0
   all_goals exact ⟨rfl, HE.out _ (by repeat (first | exact Below.refl _ _ | refine Below.setCell ?_ (by first | exact Nat.le_refl _ | (simp; done) | (simp; omega)) _ | refine below_drewN ?_ _ | refine Below.drew ?_ | refine Below.alloc ?_ (by first | exact Nat.le_refl _ | (simp; done) | (simp; omega)) _))⟩
theorem giveD_w {D : Dk} (hW : DkW D) (hl : ∀ (k : Nat) (r : Rq), D.rs[k]? = some r -> r.is = 1 -> r.tk ≠ none) (i : Nat) : DkW (giveD D i) := by
 unfold giveD
 cases he : D.rs.findIdx? (mayR D) with
 | none => exact hW
 | some j =>
  intro a b r ha hr
  have hj := (List.findIdx?_eq_some_iff_getElem.1 he)
  obtain ⟨hj1, hj2, -⟩ := hj
  have hjr : D.rs[j]? = some D.rs[j] := List.getElem?_eq_getElem hj1
  have his : (D.rs[j]).is = 1 := by
   unfold mayR at hj2
   rw [Bool.and_eq_true] at hj2
   exact of_decide_eq_true hj2.1
  have hr2 : (D.rs.modify j fun r => { r with is := 2 })[b]? = some r := hr
  rw [modify_set _ hjr] at hr2
  by_cases e : j = b
  ·subst e
   rw [List.getElem?_set_self hj1] at hr2
   injection hr2 with hr2
   rw [← hr2]
   show (D.rs[j]).tk ≠ none
   exact hl j _ hjr his
  ·rw [List.getElem?_set_ne e] at hr2
   have ha2 : (D.wk.set i (some j))[a]? = some (some b) := ha
   by_cases e2 : i = a
   ·subst e2
    by_cases hi : i < D.wk.length
    ·rw [List.getElem?_set_self hi] at ha2
     injection ha2 with ha2
     injection ha2 with ha2
     exact absurd ha2 e
    ·rw [List.getElem?_eq_none (by rw [List.length_set]; omega)] at ha2; cases ha2
   ·rw [List.getElem?_set_ne e2] at ha2
    exact hW a b r ha2 hr2
theorem giveD_len (D : Dk) (i : Nat) : (giveD D i).wk.length = D.wk.length := by
 unfold giveD
 cases D.rs.findIdx? (mayR D) with
 | none => rfl
 | some j => show (D.wk.set i (some j)).length = _; rw [List.length_set]
theorem DkAt.liveR {xs : List ByteArray} {mr : Nat} {R : Nat -> Prop} {db : Nat} {Q : Nat -> Prop} {D : Dk} {tv : Value} {wb : Nat} {ls : List Rl} {w : World} (h : DkAt xs mr R db Q D tv wb ls w) : ∀ (k : Nat) (r : Rq), D.rs[k]? = some r -> r.is = 1 -> r.tk ≠ none := by
 intro k r hr hi e
 have hk := (List.getElem?_eq_some_iff.1 hr).1
 obtain ⟨l, hl⟩ : ∃ l, ls[k]? = some l := ⟨_, List.getElem?_eq_getElem (by rw [h.len]; exact hk)⟩
 exact (h.at' k l r hl hr).live.1 e (Or.inl hi)
def DkStP (xs : List ByteArray) (mr : Nat) (R : Nat -> Prop) (db : Nat) (Q : Nat -> Prop) (D : Dk) (i : Nat) (tv : Value) (wb : Nat) (w w' : World) : Prop :=
 Frm Q w w' /\ ∃ D' ls', DStep xs D i D' /\ DkAt xs mr R db (more Q w w') D' tv wb ls' w'
theorem more_wide {xs : List ByteArray} {mr : Nat} {R : Nat -> Prop} {db : Nat} {Q : Nat -> Prop} {D : Dk} {tv : Value} {wb : Nat} {ls : List Rl} {w w' : World} (h : DkAt xs mr R db Q D tv wb ls w') (hR : ∀ k, R k -> k < w.heap.size) : DkAt xs mr R db (more Q w w') D tv wb ls w' := by
 refine h.wide (fun k e => Or.inl e) (fun k e => ?_) fun k hk e => ?_
 ·rcases e with e | e
  ·exact h.lt k e
  ·exact e.2
 ·rcases e with e | e
  ·exact h.rq k hk e
  ·have := hR k hk; omega
theorem dkStep_rest (HW : Hid TWayC) {xs : List ByteArray} {mr : Nat} {R : Nat -> Prop} {db : Nat} {Q : Nat -> Prop} {D D1 : Dk} {i : Nat} {tv : Value} {wb : Nat} {ls : List Rl} {w w1 : World} (h0 : DkAt xs mr R db Q D tv wb ls w) (h1 : DkAt xs mr R db Q D1 tv wb ls w1) (hf : Frm Q w w1) (hW : DkW D1) (he : D1 = if D.wk[i]? = some none then giveD D i else D) {o : Option Nat} (ho : D1.wk[i]? = some o) :
  (o = none -> CallsD Tryz.prog 110 #[.pointer (some ⟨db, 0, none⟩)] .returning w1 fun e u' w' => u' = .returning /\ (e = .returned (.tuple #[]) /\ DkStP xs mr R db Q D i tv wb w w')) /\
  (∀ j, o = some j -> ∃ rb, wkV ls o = .pointer (some ⟨rb, 0, none⟩) /\ Calls Tryz.prog 112 #[.pointer (some ⟨rb, 0, none⟩)] w1 fun e w2 => e = .returned (.tuple #[]) /\ Hid (CallsD Tryz.prog 110 #[.pointer (some ⟨db, 0, none⟩)] .returning w2 fun e u' w' => u' = .returning /\ (e = .returned (.tuple #[]) /\ DkStP xs mr R db Q D i tv wb w w'))) := by
 constructor
 ·intro e
  subst e
  refine (dkDismiss_d h1 .returning).mono ?_
  rintro e u' w' ⟨hu, rfl, hf', -, hD'⟩
  rw [dismissD_id hW h1.ok.wj] at hD'
  have hff : Frm Q w w' := hf.trans hf' fun k _ e => e ▸ h1.wQ
  exact ⟨hu, rfl, hff, D1, ls, DStep.idle D1 he ho, more_wide hD' h0.ru.lt⟩
 ·intro j e
  subst e
  have hj := h1.ok.wj i j ho
  obtain ⟨l, r, hl, hr, hR⟩ := h1.get hj
  obtain ⟨t, ht⟩ : ∃ t, r.tk = some t := by
   cases e : r.tk with
   | none => exact absurd e (hW i j r ho hr)
   | some t => exact ⟨t, rfl⟩
  have hm := List.mem_of_getElem? hl
  refine ⟨l.rb, by rw [wkV_some, hl]; rfl, ?_⟩
  refine (rqStep_any HW hR ht h1.ru fun k hk e => h1.rq k hk (h1.inQ l hm k e)).mono ?_
  rintro e w2 ⟨rfl, hf2, fin, r', uv', tp', hs, hR'⟩
  refine ⟨rfl, ?_⟩
  have hD2 := h1.upd (l' := ⟨l.rb, more l.P w1 w2, uv', tp'⟩) (r' := r') hl hr rfl hf2 (fun k e => e) hR'
  refine (dkDismiss_d hD2 .returning).mono ?_
  rintro e u' w' ⟨hu, rfl, hf', hz', hD'⟩
  have hff : Frm Q w w' := (hf.trans hf2 fun k _ e => h1.inQ l hm k e).trans hf' fun k _ e => e ▸ h1.wQ
  refine ⟨hu, rfl, hff, _, ls.set j ⟨l.rb, more l.P w1 w2, uv', tp'⟩, DStep.work D1 he j ho r r' t fin hr ht hs, ?_⟩
  have hs1 := hf.size
  refine hD'.wide (fun k e => ?_) (fun k e => ?_) fun k hk e => ?_
  ·rcases e with e | e
   ·exact Or.inl e
   ·exact Or.inr ⟨by omega, by rw [hz']; exact e.2⟩
  ·rcases e with e | e
   ·exact Nat.lt_of_lt_of_le (h0.lt k e) hff.size
   ·exact e.2
  ·rcases e with e | e
   ·exact h0.rq k hk e
   ·have := h0.ru.lt k hk; omega
theorem dkStep_any (HW : Hid TWayC) {xs : List ByteArray} {mr : Nat} {R : Nat -> Prop} {db : Nat} {Q : Nat -> Prop} {D : Dk} {tv : Value} {wb : Nat} {ls : List Rl} {w : World} (h : DkAt xs mr R db Q D tv wb ls w) (hW : DkW D) {i : Nat} (hi : i < D.wk.length) :
  Calls Tryz.prog 63 #[.pointer (some ⟨db, 0, none⟩), .int .i64 i] w fun e w' => e = .returned (.tuple #[]) /\ DkStP xs mr R db Q D i tv wb w w' := by
 obtain ⟨o, ho⟩ : ∃ o, D.wk[i]? = some o := ⟨_, List.getElem?_eq_getElem hi⟩
 have d3 := row_cell h.blk (j := 3) rfl
 have dw := row_cell h.wrow (j := i) (u := wkV ls o) (by rw [List.getElem?_map, ho]; rfl)
 have h4 := h.ok.w4
 cases o with
 | some j =>
  obtain ⟨-, hs⟩ := dkStep_rest HW h h (Frm.refl _ _) hW (by rw [if_neg]; rw [ho]; simp) ho
  obtain ⟨rb, hrb, hst⟩ := hs j rfl
  have HST : Hid (Calls Tryz.prog 112 #[.pointer (some ⟨rb, 0, none⟩)] w _) := hst
  rw [hrb] at dw
  generalize DkStP xs mr R db Q D i tv wb w = PP at *
  generalize D.wk.length = M at *
  clear h hW ho hs hst hrb HW
  go_enter_defers Tryz.func63, Tryz.ntmps63
  go_wp2_with (go_at_call 112; refine (Calls.mono HST.out) ?_; rintro e w2 ⟨rfl, HDI⟩)
  refine leaves_cons (f := 110) (args := #[.pointer (some ⟨db, 0, none⟩)]) (by simp) (by simp [go_sem]) ?_
  refine (CallsD.mono HDI.out) ?_
  rintro e u' w6 ⟨rfl, rfl, hp⟩
  exact ⟨.tuple #[], by simp [results, Tryz.results63, go_sem], rfl, hp⟩
 | none =>
  have hgl := giveD_len D i
  have HGI : Hid (Calls Tryz.prog 111 #[.pointer (some ⟨db, 0, none⟩), .int .i64 i] w fun e w1 => e = .returned (.tuple #[]) /\ w1.cell? ⟨db, 3, none⟩ = some (.slice (some ⟨wb, 0, none⟩) D.wk.length D.wk.length) /\ ((w1.cell? ⟨wb, i, none⟩ = some (.pointer none) /\ Hid (CallsD Tryz.prog 110 #[.pointer (some ⟨db, 0, none⟩)] .returning w1 fun e u' w' => u' = .returning /\ (e = .returned (.tuple #[]) /\ DkStP xs mr R db Q D i tv wb w w'))) \/ ∃ rb, w1.cell? ⟨wb, i, none⟩ = some (.pointer (some ⟨rb, 0, none⟩)) /\ Hid (Calls Tryz.prog 112 #[.pointer (some ⟨rb, 0, none⟩)] w1 fun e w2 => e = .returned (.tuple #[]) /\ Hid (CallsD Tryz.prog 110 #[.pointer (some ⟨db, 0, none⟩)] .returning w2 fun e u' w' => u' = .returning /\ (e = .returned (.tuple #[]) /\ DkStP xs mr R db Q D i tv wb w w'))))) := by
   refine (dkGive_any h hW hi).mono ?_
   rintro e w1 ⟨rfl, hf, hD⟩
   obtain ⟨o1, ho1⟩ : ∃ o1, (giveD D i).wk[i]? = some o1 := ⟨_, List.getElem?_eq_getElem (by rw [hgl]; exact hi)⟩
   have d3' := row_cell hD.blk (j := 3) rfl
   have dw' := row_cell hD.wrow (j := i) (u := wkV ls o1) (by rw [List.getElem?_map, ho1]; rfl)
   obtain ⟨hn, hs⟩ := dkStep_rest HW h hD hf (giveD_w hW h.liveR i) (by rw [if_pos ho]) ho1
   have d3'' : w1.cell? ⟨db, 3, none⟩ = some (.slice (some ⟨wb, 0, none⟩) D.wk.length D.wk.length) := by rw [← hgl]; exact d3'
   refine ⟨rfl, d3'', ?_⟩
   cases o1 with
   | none => exact Or.inl ⟨dw', hn rfl⟩
   | some j =>
    obtain ⟨rb, hrb, hst⟩ := hs j rfl
    rw [hrb] at dw'
    exact Or.inr ⟨rb, dw', hst⟩
  have dw2 : w.cell? ⟨wb, i, none⟩ = some (.pointer none) := dw
  generalize DkStP xs mr R db Q D i tv wb w = PP at *
  generalize D.wk.length = M at *
  clear h hW ho HW dw hgl
  go_enter_defers Tryz.func63, Tryz.ntmps63
  go_wp2_with (first | (go_at_call 111; refine (Calls.mono HGI.out) ?_; rintro e w1 ⟨rfl, g3, ⟨gw, HDI⟩ | ⟨rb, gw, HST⟩⟩) | (go_at_call 112; refine (Calls.mono HST.out) ?_; rintro e w2 ⟨rfl, HDI⟩))
  all_goals
   refine leaves_cons (f := 110) (args := #[.pointer (some ⟨db, 0, none⟩)]) (by simp) (by simp [go_sem]) ?_
   refine (CallsD.mono HDI.out) ?_
   rintro e u' w6 ⟨rfl, rfl, hp⟩
   exact ⟨.tuple #[], by simp [results, Tryz.results63, go_sem], rfl, hp⟩
theorem DkAt.setC {xs : List ByteArray} {mr : Nat} {R : Nat -> Prop} {db : Nat} {Q : Nat -> Prop} {D : Dk} {tv : Value} {wb : Nat} {ls : List Rl} {w : World} (h : DkAt xs mr R db Q D tv wb ls w) (c : Int) (h0 : 0 <= c) (h9 : c <= 1000000000) :
  DkAt xs mr R db Q { D with clock := c } tv wb ls (w.setCell ⟨db, 1, none⟩ (.int .i64 c)) := by
 have hf := frm_set w db 1 (.int .i64 c)
 have hz := setSz w ⟨db, 1, none⟩ (.int .i64 c)
 have hdw : wb ≠ db := by
  intro e
  have h1 := h.wrow
  rw [e, h.blk] at h1
  injection h1 with h1
  injection h1 with _ h1
  revert h1; decide
 have htd : ∀ g, tv.ownBlock = some g -> g ≠ db := by
  intro g hg e
  obtain ⟨-, -, cur, h1⟩ := owns_lt h.row g hg
  rw [e, h.blk] at h1
  injection h1 with h1
  injection h1 with _ h1
  revert h1; decide
 have hR : ∀ k, R k -> (w.setCell ⟨db, 1, none⟩ (.int .i64 c)).heap[k]? = w.heap[k]? := fun k hk => hf.block k (h.ru.lt k hk) fun e => h.rq k hk (e ▸ h.dQ)
 exact { h with blk := row_set h.blk 1 _, row := owns_to h.row fun g hg => hf.block g (owns_lt h.row g hg).1 (htd g hg), wrow := (hf.block wb (row_lt h.wrow) hdw).trans h.wrow, at' := fun a l r hl hr => (h.at' a l r hl hr).keep hf.size (fun k hk => hf.block k ((h.at' a l r hl hr).lt k hk) fun e => h.dn l (List.mem_of_getElem? hl) (e ▸ hk)) (h.ru.all _ hR), lt := fun k e => by rw [hz]; exact h.lt k e, ok := { h.ok with c0 := h0, c9 := h9 }, ru := h.ru.to (by rw [hz]; exact Nat.le_refl _) hR }
theorem DkAt.upd0 {xs : List ByteArray} {mr : Nat} {R : Nat -> Prop} {db : Nat} {Q : Nat -> Prop} {D : Dk} {tv : Value} {wb : Nat} {ls : List Rl} {w w' : World} (h : DkAt xs mr R db Q D tv wb ls w) {i : Nat} {l : Rl} {r r' : Rq} {tp' : Value} (hl : ls[i]? = some l) (hr : D.rs[i]? = some r) (hf : Frm (fun k => k = l.rb) w w') (hz : w'.heap.size = w.heap.size) (hR : RqAt xs mr l.rb l.P r' l.uv tp' w') :
  DkAt xs mr R db Q { D with rs := D.rs.set i r' } tv wb (ls.set i { l with tp := tp' }) w' /\ Frm Q w w' := by
 have hR0 := h.at' i l r hl hr
 have hm := List.mem_of_getElem? hl
 have hfP : Frm l.P w w' := hf.mono fun k _ e => e ▸ hR0.rP
 have key := h.upd (l' := { l with tp := tp' }) hl hr rfl hfP (fun k e => Or.inl e) hR
 refine ⟨key.wide (fun k e => ?_) (fun k e => by rw [hz]; exact h.lt k e) h.rq, hfP.mono fun k _ e => h.inQ l hm k e⟩
 rcases e with e | e
 ·exact e
 ·omega
structure LatI (rs : List Rq) (c : Int) (k : Nat) (rs' : List Rq) : Prop where
 len : rs'.length = rs.length
 lo : ∀ i, i < k -> rs'[i]? = (rs[i]?).map (lateR c)
 hi : ∀ i, k <= i -> rs'[i]? = rs[i]?
theorem LatI.next {rs : List Rq} {c : Int} {k : Nat} {rs' : List Rq} (h : LatI rs c k rs') {r : Rq} (hr : rs[k]? = some r) : LatI rs c (k + 1) (rs'.set k (lateR c r)) := by
 have hk : k < rs'.length := by rw [h.len]; exact (List.getElem?_eq_some_iff.1 hr).1
 refine ⟨by rw [List.length_set]; exact h.len, fun i hi => ?_, fun i hi => ?_⟩
 ·by_cases e : k = i
  ·subst e; rw [List.getElem?_set_self hk, hr]; rfl
  ·rw [List.getElem?_set_ne e]; exact h.lo i (by omega)
 ·rw [List.getElem?_set_ne (by omega)]; exact h.hi i (by omega)
theorem LatI.all {rs : List Rq} {c : Int} {k : Nat} {rs' : List Rq} (h : LatI rs c k rs') (hk : rs.length <= k) : rs' = rs.map (lateR c) := by
 apply List.ext_getElem?
 intro i
 rw [List.getElem?_map]
 by_cases hi : i < k
 ·exact h.lo i hi
 ·rw [h.hi i (by omega), List.getElem?_eq_none (by omega)]; rfl
structure LatA (xs : List ByteArray) (mr : Nat) (R : Nat -> Prop) (db : Nat) (Q : Nat -> Prop) (D : Dk) (tv : Value) (wb : Nat) (w : World) (k : Nat) (wr : World) : Prop where
 fr : Frm Q w wr
 sz : wr.heap.size = w.heap.size
 ex : ∃ rs ls, LatI D.rs D.clock k rs /\ DkAt xs mr R db Q { D with rs := rs } tv wb ls wr
theorem dkTick_any {xs : List ByteArray} {mr : Nat} {R : Nat -> Prop} {db : Nat} {Q : Nat -> Prop} {D : Dk} {tv : Value} {wb : Nat} {ls : List Rl} {w : World} (h : DkAt xs mr R db Q D tv wb ls w) :
  Calls Tryz.prog 66 #[.pointer (some ⟨db, 0, none⟩)] w fun e w' => e = .returned (.tuple #[]) /\ Frm Q w w' /\ w'.heap.size = w.heap.size /\ ∃ ls', DkAt xs mr R db Q (tickD D) tv wb ls' w' := by
 have d1 := row_cell h.blk (j := 1) rfl
 have z1 := row_frozen h.blk 1
 have hc0 := h.ok.c0
 have hc9 := h.ok.c9
 have h30 := h.ok.rl
 have ht0 : 0 <= tickC D := by unfold tickC; omega
 have ht9 : tickC D <= 1000000000 := by unfold tickC; omega
 have hD1 := h.setC (tickC D) ht0 ht9
 have HA0 : Hid (LatA xs mr R db Q { D with clock := tickC D } tv wb w 0 (w.setCell ⟨db, 1, none⟩ (.int .i64 (tickC D)))) := ⟨(frm_set _ _ _ _).mono fun k _ e => e ▸ h.dQ, setSz _ _ _, D.rs, ls, ⟨rfl, fun i hi => by omega, fun _ _ => rfl⟩, hD1⟩
 obtain ⟨N, hN⟩ : ∃ N, D.rs.length = N := ⟨_, rfl⟩
 have HN : Hid (D.rs.length = N) := hN
 obtain ⟨tx, tc, htv⟩ := owns_form h.row
 have d2 := row_cell hD1.blk (j := 2) rfl
 rw [htv, h.len, hN] at d2
 have HTV : Hid (tv = .slice tx N tc) := by show tv = _; rw [htv, h.len, hN]
 rw [hN] at h30
 have HTD : Hid (tickD D = dismissD { D with clock := tickC D, rs := D.rs.map (lateR (tickC D)) }) := rfl
 clear h htv hN
 unfold tickC at *
 have hcc := row_cell hD1.blk (j := 1) rfl
 clear hD1
 go_enter_defers Tryz.func66, Tryz.ntmps66
 go_wp2
 go_loopw [19] (fun i wr => ∃ k : Nat, k <= N /\ i = .int .i64 k /\ LatA xs mr R db Q { D with clock := min (D.clock + 1) 1000000000 } tv wb w k wr) (fun i _ => N - (intOf i).toNat)
 case atStart => exact ⟨0, Nat.zero_le _, rfl, HA0.out⟩
 case round =>
  obtain ⟨k, hk, rfl, hA⟩ := hrel
  have HA : Hid (LatA xs mr R db Q { D with clock := min (D.clock + 1) 1000000000 } tv wb w k wr) := hA
  obtain ⟨rs, ls', hI, hD⟩ := hA.ex
  have HI : Hid (LatI D.rs (min (D.clock + 1) 1000000000) k rs) := hI
  have HD : Hid (DkAt xs mr R db Q { D with clock := min (D.clock + 1) 1000000000, rs := rs } tv wb ls' wr) := hD
  have hc1 : wr.cell? ⟨db, 1, none⟩ = some (.int .i64 (min (D.clock + 1) 1000000000)) := row_cell hD.blk (j := 1) rfl
  clear hA hI hD HA0 d1 d2 z1 hcc
  by_cases hlt : k < N
  ·obtain ⟨l, r, hl, hr, hR⟩ := HD.out.get (i := k) (by show k < rs.length; rw [HI.out.len]; have := HN.out; omega)
   obtain ⟨g, c, hg, hcell⟩ := HD.out.cell hl
   rw [HTV.out] at hg
   injection hg with hg hnn hcc
   clear hnn
   subst hg
   subst hcc
   have hr0 : D.rs[k]? = some r := by rw [← HI.out.hi k (Nat.le_refl _)]; exact hr
   have HLT : Hid (Calls Tryz.prog 108 #[.pointer (some ⟨l.rb, 0, none⟩), .int .i64 (min (D.clock + 1) 1000000000)] wr fun e w' => e = .returned (.tuple #[]) /\ LatA xs mr R db Q { D with clock := min (D.clock + 1) 1000000000 } tv wb w (k + 1) w') := by
    refine (rqLate_any hR (min (D.clock + 1) 1000000000)).mono ?_
    rintro e w' ⟨rfl, hf, hz, tp', hR'⟩
    obtain ⟨hD', hf'⟩ := HD.out.upd0 hl hr hf hz hR'
    exact ⟨rfl, HA.out.fr.trans hf' fun _ _ e => e, by rw [hz]; exact HA.out.sz, _, _, HI.out.next hr0, hD'⟩
   clear hl hr hR hr0 HA HI HD
   go_wp2_with (go_at_call 108; refine HLT.out.mono ?_; rintro e w1 ⟨rfl, hA1⟩; have HA1 : Hid (LatA xs mr R db Q { D with clock := min (D.clock + 1) 1000000000 } tv wb w (k + 1) w1) := hA1; clear hA1)
   go_roundw
   case rel => exact ⟨k + 1, by omega, by go_num, HA1.out⟩
   case measure => simp [intOf]; omega
  ·obtain rfl : k = N := by omega
   have HDI : Hid (CallsD Tryz.prog 110 #[.pointer (some ⟨db, 0, none⟩)] .returning wr fun e u' w' => u' = .returning /\ (e = .returned (.tuple #[]) /\ Frm Q w w' /\ w'.heap.size = w.heap.size /\ ∃ ls', DkAt xs mr R db Q (tickD D) tv wb ls' w')) := by
    refine (dkDismiss_d HD.out .returning).mono ?_
    rintro e u' w' ⟨hu, rfl, hf, hz, hD'⟩
    have e := HI.out.all (by have := HN.out; omega)
    rw [e] at hD'
    refine ⟨hu, rfl, HA.out.fr.trans hf fun j _ e => e ▸ HD.out.wQ, by rw [hz]; exact HA.out.sz, ls', ?_⟩
    rw [HTD.out]; exact hD'
   clear HA HI HD
   go_wp2
   refine leaves_cons (f := 110) (args := #[.pointer (some ⟨db, 0, none⟩)]) (by simp) (by simp [go_sem]) ?_
   refine (CallsD.mono HDI.out) ?_
   rintro e u' w6 ⟨rfl, rfl, hp⟩
   exact ⟨.tuple #[], by simp [results, Tryz.results66, go_sem], rfl, hp⟩
theorem dkHas_any {xs : List ByteArray} {mr : Nat} {R : Nat -> Prop} {db : Nat} {Q : Nat -> Prop} {D : Dk} {tv : Value} {wb : Nat} {ls : List Rl} {w : World} (h : DkAt xs mr R db Q D tv wb ls w) (id : Int) :
  Calls Tryz.prog 113 #[.pointer (some ⟨db, 0, none⟩), .int .i64 id] w fun e w' => e = .returned (.bool (hasD D id)) /\ w' = w := by
 have d2 := row_cell h.blk (j := 2) rfl
 obtain ⟨tx, tc, htv⟩ := owns_form h.row
 rw [htv, h.len] at d2
 unfold hasD
 generalize D.rs.length = N at *
 clear h htv
 by_cases h1 : 1 <= id
 ·have e1 : decide (1 <= id) = true := decide_eq_true h1
  rw [e1]
  go_enter Tryz.func113, Tryz.ntmps113
  go_wp2
  go_ret
  exact ⟨ret_bool (by simp), rfl⟩
 ·have e1 : decide (1 <= id) = false := decide_eq_false h1
  rw [e1]
  go_enter Tryz.func113, Tryz.ntmps113
  go_wp2
  go_ret
  exact ⟨ret_bool (by simp), rfl⟩
theorem dkHasW_any {xs : List ByteArray} {mr : Nat} {R : Nat -> Prop} {db : Nat} {Q : Nat -> Prop} {D : Dk} {tv : Value} {wb : Nat} {ls : List Rl} {w : World} (h : DkAt xs mr R db Q D tv wb ls w) (i : Int) :
  Calls Tryz.prog 62 #[.pointer (some ⟨db, 0, none⟩), .int .i64 i] w fun e w' => e = .returned (.bool (decide (0 <= i) && decide (i < (D.wk.length : Nat)))) /\ w' = w := by
 have d3 := row_cell h.blk (j := 3) rfl
 generalize D.wk.length = N at *
 clear h
 by_cases h1 : 0 <= i
 ·have e1 : decide (0 <= i) = true := decide_eq_true h1
  rw [e1]
  go_enter Tryz.func62, Tryz.ntmps62
  go_wp2
  go_ret
  exact ⟨ret_bool (by simp), rfl⟩
 ·have e1 : decide (0 <= i) = false := decide_eq_false h1
  rw [e1]
  go_enter Tryz.func62, Tryz.ntmps62
  go_wp2
  go_ret
  exact ⟨ret_bool (by simp), rfl⟩
theorem cellA {w : World} {b j : Nat} {u : Value} (h : w.cell? ⟨b, j, none⟩ = some u) (o : Obj) : (w.alloc o).cell? ⟨b, j, none⟩ = some u :=
 (World.cell?_of_block (a := ⟨b, j, none⟩) (Below.heap_alloc w o b (cell_lt h))).trans h
theorem ownsSet {w : World} {base b : Nat} {e : TypeId} {size n : Nat} {v : Value} {us : List Value} (h : w.ownsRow base e size v n us) (hb : b < base) (i : Nat) (u : Value) : (w.setCell ⟨b, i, none⟩ u).ownsRow base e size v n us :=
 owns_to h fun g hg => Below.heap_setCell _ _ _ _ (by have := (owns_lt h g hg).2.1; show g ≠ b; omega)
def noR : Rq := ⟨0, 0, false, [], none⟩
def pollR (D : Dk) (id : Int) : Rq := if hasD D id = true then (D.rs[id.toNat - 1]?).getD noR else noR
def PollP (r : Rq) (w : World) (e : Ending) (w' : World) : Prop :=
 ∃ o c, e = .returned (.agg #[.int .i64 r.is, .int .i64 r.st, .bool r.al, .slice o r.us.length c]) /\ w'.ownsRow w.heap.size 9 1 (.slice o r.us.length c) r.us.length (strV r.us) /\ Below w.heap.size w w'
theorem cloneT {w : World} {v : Value} {us : List ByteArray} (h : StrT w v us) (hl : us.length <= 50) : Calls Tryz.prog 49 #[v] w fun e w' => ∃ o c, e = .returned (.slice o us.length c) /\ w'.ownsRow w.heap.size 9 1 (.slice o us.length c) us.length (strV us) /\ Below w.heap.size w w' := by
 rcases h.strs with ⟨rfl, rfl⟩ | ⟨b0, o0, c0, rfl, hc0⟩
 ·refine (clone_nil w).mono ?_
  rintro e w' ⟨rfl, rfl⟩
  exact ⟨none, 0, rfl, World.ownsRow_nil _ _ _ _, Below.refl _ _⟩
 ·refine (clone_any b0 o0 c0 us w hc0 (by omega)).mono ?_
  rintro e w' ⟨g, c, rfl, ho, hb⟩
  exact ⟨_, _, rfl, ho, hb⟩
theorem dkState_any {xs : List ByteArray} {mr : Nat} {R : Nat -> Prop} {db : Nat} {Q : Nat -> Prop} {D : Dk} {tv : Value} {wb : Nat} {ls : List Rl} {w : World} (h : DkAt xs mr R db Q D tv wb ls w) (id : Int) :
  Calls Tryz.prog 64 #[.pointer (some ⟨db, 0, none⟩), .int .i64 id] w (PollP (pollR D id) w) := by
 have HHA : Hid (∀ w1, Below w.heap.size w w1 -> Calls Tryz.prog 113 #[.pointer (some ⟨db, 0, none⟩), .int .i64 id] w1 fun e w' => e = .returned (.bool (hasD D id)) /\ w' = w1) := fun w1 hb => dkHas_any (h.below hb) id
 unfold pollR
 cases hh : hasD D id with
 | false =>
  rw [hh] at HHA
  have e0 : (if (false : Bool) = true then (D.rs[id.toNat - 1]?).getD noR else noR) = noR := if_neg (by decide)
  rw [e0]
  clear h e0
  go_enter Tryz.func64, Tryz.ntmps64
  go_wp2_with (go_at_call 113; refine (HHA.out _ (by repeat (first | exact Below.refl _ _ | refine Below.setCell ?_ (by first | exact Nat.le_refl _ | (simp; done) | (simp; omega)) _ | refine below_drewN ?_ _ | refine Below.drew ?_ | refine Below.alloc ?_ (by first | exact Nat.le_refl _ | (simp; done) | (simp; omega)) _))).mono ?_; rintro e w1 ⟨rfl, hw1⟩; subst w1)
  refine bodyPost_ret (v := .agg #[.int .i64 0, .int .i64 0, .bool false, .slice none 0 0]) (by simp [results, Tryz.results64, go_sem]) rfl ⟨none, 0, rfl, World.ownsRow_nil _ _ _ _, by repeat (first | exact Below.refl _ _ | refine Below.setCell ?_ (by first | exact Nat.le_refl _ | (simp; done) | (simp; omega)) _ | refine below_drewN ?_ _ | refine Below.drew ?_ | refine Below.alloc ?_ (by first | exact Nat.le_refl _ | (simp; done) | (simp; omega)) _)⟩
 | true =>
  rw [hh] at HHA
  have hid : 1 <= id /\ id <= (D.rs.length : Nat) := by
   unfold hasD at hh
   rw [Bool.and_eq_true] at hh
   exact ⟨of_decide_eq_true hh.1, of_decide_eq_true hh.2⟩
  obtain ⟨n, rfl⟩ : ∃ n : Nat, id = (n : Int) + 1 := ⟨id.toNat - 1, by omega⟩
  have hn : n < D.rs.length := by omega
  have e0 : (if (true : Bool) = true then (D.rs[((n : Int) + 1).toNat - 1]?).getD noR else noR) = (D.rs[n]?).getD noR := by
   rw [if_pos rfl]
   have : ((n : Int) + 1).toNat - 1 = n := by omega
   rw [this]
  rw [e0]
  obtain ⟨l, r, hl, hr, hR⟩ := h.get hn
  obtain ⟨g, c, hg, hcell⟩ := h.cell hl
  rw [hr]
  show Calls _ _ _ _ (PollP r w)
  have h30 := h.ok.rl
  have d2 := row_cell h.blk (j := 2) rfl
  rw [hg, h.len] at d2
  have r0 := row_cell hR.blk (j := 0) rfl
  have r1 := row_cell hR.blk (j := 1) rfl
  have r2 := row_cell hR.blk (j := 2) rfl
  have r3 := row_cell hR.blk (j := 3) rfl
  have d2a := fun o => cellA d2 o
  have hca := fun o => cellA hcell o
  have r0a := fun o => cellA r0 o
  have r1a := fun o => cellA r1 o
  have r2a := fun o => cellA r2 o
  have r3a := fun o => cellA r3 o
  have huv : ∃ o n c, l.uv = .slice o n c := by
   rcases hR.us with ⟨e, -⟩ | ⟨b, cap, cur, e, -⟩
   ·exact ⟨_, _, _, e⟩
   ·exact ⟨_, _, _, e⟩
  obtain ⟨uo, un, uc, huv⟩ := huv
  have HCL : Hid (∀ w1, Below w.heap.size w w1 -> Calls Tryz.prog 49 #[.slice uo un uc] w1 fun e w' => ∃ o c, e = .returned (.slice o r.us.length c) /\ w'.ownsRow w1.heap.size 9 1 (.slice o r.us.length c) r.us.length (strV r.us) /\ Below w1.heap.size w1 w') := by
   intro w1 hb1
   rw [← huv]
   exact cloneT (strT_to hR.us fun k hk => hb1.block k (strT_own hR.us k hk).1) hR.ul
  have HPP : Hid (∀ (o : Option Addr) (c b : Nat) (w' : World), w.heap.size <= b -> w'.ownsRow b 9 1 (.slice o r.us.length c) r.us.length (strV r.us) -> Below w.heap.size w w' -> PollP r w (.returned (.agg #[.int .i64 r.is, .int .i64 r.st, .bool r.al, .slice o r.us.length c])) w') := fun o c b w' hb1 ho hb => ⟨o, c, rfl, owns_base ho hb1, hb⟩
  rw [huv] at r3 r3a
  generalize PollP r w = PP at *
  generalize l.rb = rb at *
  generalize r.us = us at *
  generalize r.is = is at *
  generalize r.st = st at *
  generalize r.al = al at *
  generalize D.rs.length = N at *
  clear h hR hl hr hg hh hid e0 huv d2 hcell r0 r1 r2 r3
  go_enter Tryz.func64, Tryz.ntmps64
  go_wp2_with (first | (go_at_call 113; refine (HHA.out _ (by repeat (first | exact Below.refl _ _ | refine Below.setCell ?_ (by first | exact Nat.le_refl _ | (simp; done) | (simp; omega)) _ | refine below_drewN ?_ _ | refine Below.drew ?_ | refine Below.alloc ?_ (by first | exact Nat.le_refl _ | (simp; done) | (simp; omega)) _))).mono ?_; rintro e w1 ⟨rfl, hw1⟩; subst w1) | (go_at_call 49; refine (HCL.out _ (by repeat (first | exact Below.refl _ _ | refine Below.setCell ?_ (by first | exact Nat.le_refl _ | (simp; done) | (simp; omega)) _ | refine below_drewN ?_ _ | refine Below.drew ?_ | refine Below.alloc ?_ (by first | exact Nat.le_refl _ | (simp; done) | (simp; omega)) _))).mono ?_; rintro e w2 ⟨o, c, rfl, ho2, hb2⟩; have hz2 : w.heap.size + 1 < w2.heap.size := (by have := hb2.size; simp at this; omega); have k0 := fun o => hb2.cell (p := ⟨w.heap.size, o, none⟩) (by simp; omega); have k1 := fun o => hb2.cell (p := ⟨w.heap.size + 1, o, none⟩) (by simp); have f0 := fun o => hb2.frozen (p := ⟨w.heap.size, o, none⟩) (by simp; omega); have f1 := fun o => hb2.frozen (p := ⟨w.heap.size + 1, o, none⟩) (by simp)))
  have hB2 : Below w.heap.size w w2 := (((Below.refl w.heap.size w).alloc (Nat.le_refl _) _).alloc (by simp) _).trans (hb2.mono (by simp; omega))
  refine bodyPost_ret (v := .agg #[.int .i64 is, .int .i64 st, .bool al, .slice o us.length c]) (by simp [results, Tryz.results64, go_sem, k0]) rfl ?_
  have ho3 := owns_base (base' := w.heap.size + 2) ho2 (by simp)
  refine HPP.out o c (w.heap.size + 2) _ (by omega) ?_ ?_
  ·exact ownsSet (ownsSet (ownsSet (ownsSet (ownsSet ho3 (by omega) _ _) (by omega) _ _) (by omega) _ _) (by omega) _ _) (by omega) _ _
  ·exact ((((hB2.setCell (Nat.le_succ _) _).setCell (Nat.le_refl _) _).setCell (Nat.le_refl _) _).setCell (Nat.le_refl _) _).setCell (Nat.le_refl _) _
def CanP (xs : List ByteArray) (mr : Nat) (R : Nat -> Prop) (db : Nat) (Q : Nat -> Prop) (D : Dk) (tv : Value) (wb : Nat) (w w' : World) : Prop :=
 Frm Q w w' /\ w'.heap.size = w.heap.size /\ ∃ ls', DkAt xs mr R db Q D tv wb ls' w'
theorem dkCancel_any {xs : List ByteArray} {mr : Nat} {R : Nat -> Prop} {db : Nat} {Q : Nat -> Prop} {D : Dk} {tv : Value} {wb : Nat} {ls : List Rl} {w : World} (h : DkAt xs mr R db Q D tv wb ls w) (hW : DkW D) (id : Int) :
  Calls Tryz.prog 65 #[.pointer (some ⟨db, 0, none⟩), .int .i64 id] w fun e w' => e = .returned (.bool (cancelB D id)) /\ CanP xs mr R db Q (cancelD D id) tv wb w w' := by
 have HHA : Hid (Calls Tryz.prog 113 #[.pointer (some ⟨db, 0, none⟩), .int .i64 id] w fun e w' => e = .returned (.bool (hasD D id)) /\ w' = w) := dkHas_any h id
 have HD0 : Hid (CallsD Tryz.prog 110 #[.pointer (some ⟨db, 0, none⟩)] .returning w fun e u' w' => u' = .returning /\ (e = .returned (.tuple #[]) /\ CanP xs mr R db Q D tv wb w w')) := by
  refine (dkDismiss_d h .returning).mono ?_
  rintro e u' w' ⟨hu, rfl, hf, hz, hD'⟩
  rw [dismissD_id hW h.ok.wj] at hD'
  exact ⟨hu, rfl, hf.mono fun k _ e => e ▸ h.wQ, hz, ls, hD'⟩
 cases hh : hasD D id with
 | false =>
  rw [hh] at HHA
  have e1 : cancelB D id = false := by unfold cancelB; rw [hh]; rfl
  have e2 : cancelD D id = D := by unfold cancelD; rw [e1]; exact if_neg (by decide)
  rw [e1, e2]
  generalize CanP xs mr R db Q D tv wb w = PP at *
  clear h hW hh e1 e2
  go_enter_defers Tryz.func65, Tryz.ntmps65
  go_wp2_with (go_at_call 113; refine HHA.out.mono ?_; rintro e w1 ⟨rfl, hw1⟩; subst w1)
  refine leaves_cons (f := 110) (args := #[.pointer (some ⟨db, 0, none⟩)]) (by simp) (by simp [go_sem]) ?_
  refine (CallsD.mono HD0.out) ?_
  rintro e u' w6 ⟨rfl, rfl, hp⟩
  exact ⟨.bool false, by simp [results, Tryz.results65, go_sem], rfl, hp⟩
 | true =>
  rw [hh] at HHA
  have hid : 1 <= id /\ id <= (D.rs.length : Nat) := by
   have hh2 := hh
   unfold hasD at hh2
   rw [Bool.and_eq_true] at hh2
   exact ⟨of_decide_eq_true hh2.1, of_decide_eq_true hh2.2⟩
  obtain ⟨n, rfl⟩ : ∃ n : Nat, id = (n : Int) + 1 := ⟨id.toNat - 1, by omega⟩
  have hn : n < D.rs.length := by omega
  have en : ((n : Int) + 1).toNat - 1 = n := by omega
  obtain ⟨l, r, hl, hr, hR⟩ := h.get hn
  obtain ⟨g, c, hg, hcell⟩ := h.cell hl
  have h30 := h.ok.rl
  have d2 := row_cell h.blk (j := 2) rfl
  rw [hg, h.len] at d2
  have HEN : Hid (Calls Tryz.prog 114 #[.pointer (some ⟨l.rb, 0, none⟩)] w fun e w' => e = .returned (.bool (!r.tk.isSome)) /\ w' = w) := rqEnded_any hR
  have e1 : cancelB D ((n : Int) + 1) = r.tk.isSome := by
   unfold cancelB; rw [hh, en]; unfold liveJ; rw [hr]; rfl
  cases ht : r.tk with
  | none =>
   rw [ht] at HEN e1
   have e2 : cancelD D ((n : Int) + 1) = D := by unfold cancelD; rw [e1]; exact if_neg (by decide)
   rw [e1, e2]
   generalize CanP xs mr R db Q D tv wb w = PP at *
   generalize l.rb = rb at *
   generalize D.rs.length = N at *
   clear h hW hh e1 e2 hR hl hr ht hg
   go_enter_defers Tryz.func65, Tryz.ntmps65
   go_wp2_with (first | (go_at_call 113; refine HHA.out.mono ?_; rintro e w1 ⟨rfl, hw1⟩; subst w1) | (go_at_call 114; refine HEN.out.mono ?_; rintro e w1 ⟨rfl, hw1⟩; subst w1))
   refine leaves_cons (f := 110) (args := #[.pointer (some ⟨db, 0, none⟩)]) (by simp) (by simp [go_sem]) ?_
   refine (CallsD.mono HD0.out) ?_
   rintro e u' w6 ⟨rfl, rfl, hp⟩
   exact ⟨.bool false, by simp [results, Tryz.results65, go_sem], rfl, hp⟩
  | some t =>
   rw [ht] at HEN e1
   have e1 : cancelB D ((n : Int) + 1) = true := e1
   have e2 : cancelD D ((n : Int) + 1) = dismissD { D with rs := D.rs.set n (r.ended 6) } := by
    unfold cancelD; rw [e1, en]
    rw [if_pos rfl, modify_set _ hr]
   rw [e1, e2]
   have HED : Hid (Calls Tryz.prog 115 #[.pointer (some ⟨l.rb, 0, none⟩), .int .i64 6] w fun e w1 => e = .returned (.tuple #[]) /\ Hid (CallsD Tryz.prog 110 #[.pointer (some ⟨db, 0, none⟩)] .returning w1 fun e u' w' => u' = .returning /\ (e = .returned (.tuple #[]) /\ CanP xs mr R db Q (dismissD { D with rs := D.rs.set n (r.ended 6) }) tv wb w w'))) := by
    refine (rqEnd_any hR.blk 6).mono ?_
    rintro e w1 ⟨rfl, hb1, hf1, hz1⟩
    refine ⟨rfl, ?_⟩
    obtain ⟨hD1, hfq⟩ := h.upd0 hl hr hf1 hz1 (hR.toEnd (by decide) (by decide) hb1 hf1)
    refine (dkDismiss_d hD1 .returning).mono ?_
    rintro e u' w' ⟨hu, rfl, hf, hz, hD'⟩
    exact ⟨hu, rfl, hfq.trans hf fun k _ e => e ▸ h.wQ, hz.trans hz1, _, hD'⟩
   generalize CanP xs mr R db Q (dismissD { D with rs := D.rs.set n (r.ended 6) }) tv wb w = PP at *
   generalize l.rb = rb at *
   generalize D.rs.length = N at *
   clear h hW hh e1 e2 hR hl hr ht hg HD0
   go_enter_defers Tryz.func65, Tryz.ntmps65
   go_wp2_with (first | (go_at_call 113; refine HHA.out.mono ?_; rintro e w1 ⟨rfl, hw1⟩; subst w1) | (go_at_call 114; refine HEN.out.mono ?_; rintro e w1 ⟨rfl, hw1⟩; subst w1) | (go_at_call 115; refine (Calls.mono HED.out) ?_; rintro e w2 ⟨rfl, HDI⟩))
   refine leaves_cons (f := 110) (args := #[.pointer (some ⟨db, 0, none⟩)]) (by simp) (by simp [go_sem]) ?_
   refine (CallsD.mono HDI.out) ?_
   rintro e u' w6 ⟨rfl, rfl, hp⟩
   exact ⟨.bool true, by simp [results, Tryz.results65, go_sem], rfl, hp⟩
theorem cancelD_w {D : Dk} (h : DkW D) (id : Int) : DkW (cancelD D id) := by
 unfold cancelD
 split
 ·exact dismissD_w _
 ·exact h
def cancelN (D : Dk) : Nat -> Dk
 | 0 => D
 | k + 1 => cancelD (cancelN D k) (k + 1)
theorem cancelN_w {D : Dk} (h : DkW D) (k : Nat) : DkW (cancelN D k) := by
 induction k with
 | zero => exact h
 | succ k ih => exact cancelD_w ih _
theorem dkCancelAll_any {xs : List ByteArray} {mr : Nat} {R : Nat -> Prop} {db : Nat} {Q : Nat -> Prop} {D : Dk} {tv : Value} {wb : Nat} {ls : List Rl} {w : World} (h : DkAt xs mr R db Q D tv wb ls w) (hW : DkW D) :
  Calls Tryz.prog 67 #[.pointer (some ⟨db, 0, none⟩)] w fun e w' => e = .returned (.tuple #[]) /\ CanP xs mr R db Q (cancelN D D.rs.length) tv wb w w' := by
 have d2 := row_cell h.blk (j := 2) rfl
 have h30 := h.ok.rl
 have HA0 : Hid (CanP xs mr R db Q (cancelN D 0) tv wb w w) := ⟨Frm.refl _ _, rfl, ls, h⟩
 have HST : Hid (∀ (k : Nat) (wr : World), CanP xs mr R db Q (cancelN D k) tv wb w wr -> Calls Tryz.prog 65 #[.pointer (some ⟨db, 0, none⟩), .int .i64 ((k : Int) + 1)] wr fun e w' => ∃ b : Bool, e = .returned (.bool b) /\ CanP xs mr R db Q (cancelN D (k + 1)) tv wb w w') := by
  rintro k wr ⟨hf, hz, ls', hD⟩
  refine (dkCancel_any hD (cancelN_w hW k) ((k : Int) + 1)).mono ?_
  rintro e w' ⟨rfl, hf', hz', ls'', hD'⟩
  exact ⟨_, rfl, hf.trans hf' fun _ _ e => e, hz'.trans hz, ls'', hD'⟩
 obtain ⟨tx, tc, htv⟩ := owns_form h.row
 rw [htv, h.len] at d2
 generalize hN : D.rs.length = N at *
 generalize hPP : (fun k => CanP xs mr R db Q (cancelN D k) tv wb w) = PP at *
 have e0 : CanP xs mr R db Q (cancelN D 0) tv wb w w = PP 0 w := by rw [← hPP]
 have HA0 : Hid (PP 0 w) := by rw [← e0]; exact HA0.out
 have HST2 : Hid (∀ (k : Nat) (wr : World), PP k wr -> Calls Tryz.prog 65 #[.pointer (some ⟨db, 0, none⟩), .int .i64 ((k : Int) + 1)] wr fun e w' => ∃ b : Bool, e = .returned (.bool b) /\ PP (k + 1) w') := by rw [← hPP]; exact HST.out
 have HE : Hid (∀ w', PP N w' -> CanP xs mr R db Q (cancelN D N) tv wb w w') := by rw [← hPP]; exact fun w' h => h
 clear h hW htv hN hPP e0 HST
 go_enter Tryz.func67, Tryz.ntmps67
 go_wp2
 go_loopw [8] (fun i wr => ∃ k : Nat, k <= N /\ i = .int .i64 k /\ PP k wr) (fun i _ => N - (intOf i).toNat)
 case atStart => exact ⟨0, Nat.zero_le _, rfl, HA0.out⟩
 case round =>
  obtain ⟨k, hk, rfl, hA⟩ := hrel
  have HA : Hid (PP k wr) := hA
  clear hA HA0
  by_cases hlt : k < N
  ·have HC : Hid (Calls Tryz.prog 65 #[.pointer (some ⟨db, 0, none⟩), .int .i64 ((k : Int) + 1)] wr fun e w' => ∃ b : Bool, e = .returned (.bool b) /\ PP (k + 1) w') := HST2.out k wr HA.out
   clear HA HST2
   go_wp2_with (go_at_call 65; refine HC.out.mono ?_; rintro e w1 ⟨b, rfl, hp⟩; have HP : Hid (PP (k + 1) w1) := hp; clear hp)
   go_roundw
   case rel => exact ⟨k + 1, by omega, by go_num, HP.out⟩
   case measure => simp [intOf]; omega
  ·obtain rfl : k = N := by omega
   have HF : Hid (CanP xs mr R db Q (cancelN D k) tv wb w wr) := HE.out _ HA.out
   clear HA HST2 HE
   go_wp2
   go_end0
   exact ⟨rfl, HF.out⟩
def newR (t : Tk) : Rq := ⟨1, 0, false, [], some t⟩
structure TkNew (xs : List ByteArray) (mr : Nat) (R Q O : Nat -> Prop) (wkb : Nat) (met : List Nod) (t : Tk) (w : World) : Prop where
 wk : WkAt xs t.now t.x mr O wkb met 0 w
 lt : 0 < met.length
 sy : t.y.k.size + 1 + t.y.n.size <= maxLen
 b1 : 1 <= t.bud
 b9 : t.bud <= 1000000000
 t0 : 0 <= t.til
 t9 : t.til <= 1000000000
 oq : ∀ k, O k -> ¬ Q k
 ro : ∀ k, R k -> ¬ O k
theorem TkNew.rq {xs : List ByteArray} {mr : Nat} {R Q O : Nat -> Prop} {wkb : Nat} {met : List Nod} {t : Tk} {w : World} (h : TkNew xs mr R Q O wkb met t w) :
  RqAt xs mr (w.heap.size + 1) (fun k => O k \/ k = w.heap.size \/ k = w.heap.size + 1) (newR t) (.slice none 0 0) (.pointer (some ⟨w.heap.size, 0, none⟩)) ((w.alloc (.cells (tkL t wkb).toArray 115)).alloc (.cells (rqL (newR t) (.slice none 0 0) (.pointer (some ⟨w.heap.size, 0, none⟩))).toArray 161)) := by
 have s1 : (w.alloc (.cells (tkL t wkb).toArray 115)).heap.size = w.heap.size + 1 := by show (w.heap.push _).size = _; simp
 have s2 : ((w.alloc (.cells (tkL t wkb).toArray 115)).alloc (.cells (rqL (newR t) (.slice none 0 0) (.pointer (some ⟨w.heap.size, 0, none⟩))).toArray 161)).heap.size = w.heap.size + 2 := by
  show ((w.alloc (.cells (tkL t wkb).toArray 115)).heap.push _).size = _
  rw [Array.size_push, s1]
 have hb : Below w.heap.size w ((w.alloc (.cells (tkL t wkb).toArray 115)).alloc (.cells (rqL (newR t) (.slice none 0 0) (.pointer (some ⟨w.heap.size, 0, none⟩))).toArray 161)) := by repeat (first | exact Below.refl _ _ | refine Below.setCell ?_ (by first | exact Nat.le_refl _ | (simp; done) | (simp; omega)) _ | refine below_drewN ?_ _ | refine Below.drew ?_ | refine Below.alloc ?_ (by first | exact Nat.le_refl _ | (simp; done) | (simp; omega)) _)
 have h2 := alloc_new (w.alloc (.cells (tkL t wkb).toArray 115)) (rqL (newR t) (.slice none 0 0) (.pointer (some ⟨w.heap.size, 0, none⟩))) 161
 rw [s1] at h2
 refine ⟨h2, Or.inl ⟨rfl, rfl⟩, (fun k e => by cases e), (fun e => by cases e), fun t' e => ?_, ⟨(fun e => by cases e), fun e => absurd (Or.inl rfl) e⟩, fun _ => ⟨rfl, rfl, rfl⟩, Or.inr (Or.inr rfl), fun k e => ?_, by show 0 <= 32000000; omega, by show 0 <= 50; omega, by show (1 : Int) <= 1; decide, by show (1 : Int) <= 6; decide⟩
 ·injection e with e
  subst e
  have hO : ∀ k, O k -> k < w.heap.size := h.wk.lt
  exact ⟨w.heap.size, wkb, O, met, rfl, Or.inr (Or.inl rfl), fun k e => Or.inl e, fun e => by have := hO _ e; omega, alloc_row (alloc_new w (tkL t wkb) _) _, h.wk.below hb, fun e => by have := hO _ e; omega, h.lt, h.sy, by have := h.b1; show ((0 : Nat) : Int) < t.bud; omega, h.b9, h.t0, h.t9⟩
 ·rw [s2]
  rcases e with e | e | e
  ·have := h.wk.lt k e; omega
  ·omega
  ·omega
theorem DkAt.take {xs : List ByteArray} {mr : Nat} {R : Nat -> Prop} {db : Nat} {Q : Nat -> Prop} {D : Dk} {tv : Value} {wb : Nat} {ls : List Rl} {w w' : World} (h : DkAt xs mr R db Q D tv wb ls w) {O : Nat -> Prop} (hO : ∀ k, O k -> k < w.heap.size /\ ¬ Q k /\ ¬ R k) {rb : Nat} {r : Rq} {uv tp tv' : Value} {P : Nat -> Prop} (hP : ∀ k, P k -> O k \/ w.heap.size <= k) (hR : RqAt xs mr rb P r uv tp w')
  (hl : D.rs.length < 30) (hf : Frm (fun k => k = db \/ tv.ownBlock = some k) w w') (hb : w'.heap[db]? = some (.cells (deskL D.qu D.clock tv' (.slice (some ⟨wb, 0, none⟩) D.wk.length D.wk.length)).toArray 157 (0, 0))) (hrow : w'.ownsRow 0 158 1 tv' (ls.length + 1) (ls.map rlV ++ [.pointer (some ⟨rb, 0, none⟩)])) (hown : ∀ k, tv'.ownBlock = some k -> tv.ownBlock = some k \/ (w.heap.size <= k /\ ¬ P k)) :
  DkAt xs mr R db (fun k => Q k \/ O k \/ (w.heap.size <= k /\ k < w'.heap.size)) { D with rs := D.rs ++ [r] } tv' wb (ls ++ [⟨rb, P, uv, tp⟩]) w' := by
 have hXQ : ∀ k, (k = db \/ tv.ownBlock = some k) -> Q k := fun k e => by
  rcases e with e | e
  ·rw [e]; exact h.dQ
  ·exact h.tQ k e
 have hku : Kpt R (fun w => RulesN w mr xs) w' := h.ru.frm hf fun k hk e => h.rq k hk (hXQ k e)
 have hget : ∀ (i : Nat) (l : Rl), (ls ++ [⟨rb, P, uv, tp⟩])[i]? = some l -> (i < ls.length /\ ls[i]? = some l) \/ (i = ls.length /\ l = ⟨rb, P, uv, tp⟩) := by
  intro i l hi
  by_cases e : i < ls.length
  ·rw [List.getElem?_append_left e] at hi; exact Or.inl ⟨e, hi⟩
  ·have h2 := (List.getElem?_eq_some_iff.1 hi).1
   rw [List.length_append] at h2
   simp at h2
   have e2 : i = ls.length := by omega
   subst e2
   rw [List.getElem?_append_right (Nat.le_refl _)] at hi
   simp at hi
   exact Or.inr ⟨rfl, hi.symm⟩
 have hmem : ∀ a ∈ ls ++ [(⟨rb, P, uv, tp⟩ : Rl)], a ∈ ls \/ a = ⟨rb, P, uv, tp⟩ := fun a ha => by
  rcases List.mem_append.1 ha with e | e
  ·exact Or.inl e
  ·exact Or.inr (List.mem_singleton.1 e)
 have hPn : ∀ k, P k -> Q k -> False := fun k e q => by
  rcases hP k e with e | e
  ·exact (hO k e).2.1 q
  ·have := h.lt k q; omega
 have hlt' : ∀ k, P k -> k < w'.heap.size := hR.lt
 refine ⟨hb, ?_, ?_, ?_, ?_, ?_, ?_, Or.inl h.dQ, Or.inl h.wQ, fun k e => ?_, ?_, ?_, ?_, ?_, ?_, ?_, hku, ?_⟩
 ·rw [List.length_append, List.map_append]; exact hrow
 ·have e : D.wk.map (wkV (ls ++ [⟨rb, P, uv, tp⟩])) = D.wk.map (wkV ls) := by
   apply List.ext_getElem?
   intro i
   rw [List.getElem?_map, List.getElem?_map]
   cases ho : D.wk[i]? with
   | none => rfl
   | some o =>
    cases o with
    | none => rfl
    | some j =>
     have hj := h.ok.wj i j ho
     show some (wkV _ (some j)) = some (wkV _ (some j))
     rw [wkV_some, wkV_some]
     rw [List.getElem?_append_left (by rw [h.len]; exact hj)]
  show w'.heap[wb]? = some (Obj.cells (D.wk.map (wkV (ls ++ [⟨rb, P, uv, tp⟩]))).toArray _ _)
  rw [e, ← h.wrow]
  refine hf.block wb (row_lt h.wrow) fun e => ?_
  rcases e with e | e
  ·have h1 := h.wrow
   rw [e, h.blk] at h1
   injection h1 with h1
   injection h1 with _ h1
   revert h1; decide
  ·exact h.tw e
 ·show _ = (D.rs ++ [r]).length
  rw [List.length_append, List.length_append, h.len]; rfl
 ·intro i l q hi hq
  rcases hget i l hi with ⟨h1, h2⟩ | ⟨h1, h2⟩
  ·have hq2 : (D.rs ++ [r])[i]? = some q := hq
   rw [List.getElem?_append_left (by rw [← h.len]; exact h1)] at hq2
   have hA := h.at' i l q h2 hq2
   refine hA.keep hf.size (fun k hk => hf.block k (hA.lt k hk) fun e => ?_) hku.now
   rcases e with e | e
   ·exact h.dn l (List.mem_of_getElem? h2) (e ▸ hk)
   ·exact h.tn l (List.mem_of_getElem? h2) k e hk
  ·subst h1 h2
   have hq2 : (D.rs ++ [r])[ls.length]? = some q := hq
   rw [h.len, List.getElem?_append_right (Nat.le_refl _)] at hq2
   simp at hq2
   rw [← hq2]; exact hR
 ·intro i j l l' k hi hj pi pj
  rcases hget i l hi with ⟨h1, h2⟩ | ⟨h1, h2⟩
  ·rcases hget j l' hj with ⟨h3, h4⟩ | ⟨h3, h4⟩
   ·exact h.sep i j l l' k h2 h4 pi pj
   ·subst h4
    exact (hPn k pj (h.inQ l (List.mem_of_getElem? h2) k pi)).elim
  ·rcases hget j l' hj with ⟨h3, h4⟩ | ⟨h3, h4⟩
   ·subst h2
    exact (hPn k pi (h.inQ l' (List.mem_of_getElem? h4) k pj)).elim
   ·rw [h1, h3]
 ·intro a ha k pa
  rcases hmem a ha with e | e
  ·exact Or.inl (h.inQ a e k pa)
  ·subst e
   rcases hP k pa with e | e
   ·exact Or.inr (Or.inl e)
   ·exact Or.inr (Or.inr ⟨e, hlt' k pa⟩)
 ·rcases hown k e with e2 | e2
  ·exact Or.inl (h.tQ k e2)
  ·exact Or.inr (Or.inr ⟨e2.1, (owns_lt hrow k e).1⟩)
 ·intro a ha pa
  rcases hmem a ha with e | e
  ·exact h.dn a e pa
  ·subst e; exact hPn _ pa h.dQ
 ·intro a ha pa
  rcases hmem a ha with e | e
  ·exact h.wn a e pa
  ·subst e; exact hPn _ pa h.wQ
 ·intro a ha k hk pa
  rcases hown k hk with e2 | e2
  ·rcases hmem a ha with e | e
   ·exact h.tn a e k e2 pa
   ·subst e; exact hPn _ pa (h.tQ k e2)
  ·rcases hmem a ha with e | e
   ·have := h.lt k (h.inQ a e k pa); omega
   ·subst e; exact e2.2 pa
 ·intro e
  rcases hown wb e with e2 | e2
  ·exact h.tw e2
  ·have := h.lt wb h.wQ; omega
 ·intro k e
  rcases e with e | e | e
  ·exact Nat.lt_of_lt_of_le (h.lt k e) hf.size
  ·exact Nat.lt_of_lt_of_le (hO k e).1 hf.size
  ·exact e.2
 ·exact { h.ok with rl := by show (D.rs ++ [r]).length <= 30; rw [List.length_append]; simp; omega, wj := fun a b hab => by show b < (D.rs ++ [r]).length; rw [List.length_append]; have := h.ok.wj a b hab; omega }
 ·intro k hk e
  rcases e with e | e | e
  ·exact h.rq k hk e
  ·exact (hO k e).2.2 hk
  ·have := h.ru.lt k hk; omega
structure TV (u : Int) (s0 : Nat) (i0 : Int) (j : Nat) (D : Dk) : Prop where
 ex : ∃ a b c : Rq, D.rs = [a, b, c] /\ a.st = s0 /\ (u <= j -> a.is = 5 /\ a.tk = none) /\ (¬ u <= j -> a.is = i0 /\ ∃ t, a.tk = some t /\ t.til = u) /\ b.is = 1 /\ (∃ t, b.tk = some t /\ t.til = 100) /\ c.is = 6 /\ c.tk = none
 clock : D.clock = j
theorem TV.tick {u : Int} {s0 : Nat} {i0 : Int} {j : Nat} {D : Dk} (h : TV u s0 i0 j D) (hj : j < 12) : TV u s0 i0 (j + 1) (tickD D) := by
 obtain ⟨a, b, c, hrs, hst, h1, h2, hb, ⟨tb, htb, htl⟩, hc, hct⟩ := h.ex
 have hcl : tickC D = ((j + 1 : Nat) : Int) := by
  unfold tickC; rw [h.clock]; omega
 have hrs' : (tickD D).rs = [lateR (tickC D) a, lateR (tickC D) b, lateR (tickC D) c] := by
  show D.rs.map (lateR (tickC D)) = _
  rw [hrs]; rfl
 have hb' : lateR (tickC D) b = b := lateR_not htb (by rw [htl, hcl]; omega)
 have hc' : lateR (tickC D) c = c := lateR_none hct
 refine ⟨⟨lateR (tickC D) a, b, c, by rw [hrs', hb', hc'], ?_, fun hu => ?_, fun hu => ?_, hb, ⟨tb, htb, htl⟩, hc, hct⟩, hcl⟩
 ·unfold lateR
  cases a.tk with
  | none => exact hst
  | some t =>
   show (if t.til <= tickC D then a.ended 5 else a).st = s0
   split
   ·exact hst
   ·exact hst
 ·by_cases hj2 : u <= j
  ·obtain ⟨q1, q2⟩ := h1 hj2
   rw [lateR_none q2]; exact ⟨q1, q2⟩
  ·obtain ⟨-, t, q2, q3⟩ := h2 hj2
   rw [lateR_yes q2 (by rw [q3, hcl]; exact hu)]; exact ⟨rfl, rfl⟩
 ·have hj2 : ¬ u <= j := fun e => hu (by omega)
  obtain ⟨q1, t, q2, q3⟩ := h2 hj2
  rw [lateR_not q2 (by rw [q3, hcl]; exact hu)]; exact ⟨q1, t, q2, q3⟩
theorem pollR_at {D : Dk} {n : Nat} {r : Rq} (h : D.rs[n]? = some r) : pollR D ((n : Int) + 1) = r := by
 have hn := (List.getElem?_eq_some_iff.1 h).1
 unfold pollR
 have hh : hasD D ((n : Int) + 1) = true := by
  unfold hasD
  rw [Bool.and_eq_true]; exact ⟨decide_eq_true (by omega), decide_eq_true (by omega)⟩
 rw [hh, if_pos rfl]
 have e : ((n : Int) + 1).toNat - 1 = n := by omega
 rw [e, h]; rfl
theorem cancelB_at {D : Dk} {n : Nat} {r : Rq} (h : D.rs[n]? = some r) : cancelB D ((n : Int) + 1) = r.tk.isSome := by
 have hn := (List.getElem?_eq_some_iff.1 h).1
 have hh : hasD D ((n : Int) + 1) = true := by
  unfold hasD
  rw [Bool.and_eq_true]; exact ⟨decide_eq_true (by omega), decide_eq_true (by omega)⟩
 have e : ((n : Int) + 1).toNat - 1 = n := by omega
 unfold cancelB
 rw [hh, e]
 unfold liveJ
 rw [h]; rfl
theorem cancelD_at {D : Dk} {n : Nat} {r : Rq} (h : D.rs[n]? = some r) : (cancelD D ((n : Int) + 1)).rs = (if r.tk = none then D.rs else D.rs.set n (r.ended 6)) /\ (cancelD D ((n : Int) + 1)).clock = D.clock := by
 have hb := cancelB_at h
 have e : ((n : Int) + 1).toNat - 1 = n := by omega
 unfold cancelD
 rw [hb, e]
 cases ht : r.tk with
 | none =>
  rw [if_neg (by decide), if_pos rfl]; exact ⟨rfl, rfl⟩
 | some t =>
  have e1 : ((some t : Option Tk).isSome = true) := rfl
  rw [if_pos e1, if_neg (by simp)]
  refine ⟨?_, rfl⟩
  show D.rs.modify n _ = _
  rw [modify_set _ h]
theorem TV.begin {u : Int} {s0 : Nat} {i0 : Int} {D : Dk} {a b c : Rq} (hrs : D.rs = [a, b, c]) (hcl : D.clock = 0) (hst : a.st = s0) (h1 : u <= 0 -> a.is = 5 /\ a.tk = none) (h2 : ¬ u <= 0 -> a.is = i0 /\ ∃ t, a.tk = some t /\ t.til = u) (hb : b.is = 1) (hbt : ∃ t, b.tk = some t /\ t.til = 100) (hc : c.tk ≠ none) : cancelB D 3 = true /\ cancelB (cancelD D 3) 3 = false /\ TV u s0 i0 0 (cancelD (cancelD D 3) 3) := by
 have h3 : D.rs[2]? = some c := by rw [hrs]; rfl
 have e3 : ((2 : Nat) : Int) + 1 = 3 := rfl
 have q1 := cancelB_at h3
 obtain ⟨q2, q3⟩ := cancelD_at h3
 rw [e3] at q1 q2 q3
 rw [if_neg hc, hrs] at q2
 have q4 : (cancelD D 3).rs = [a, b, c.ended 6] := q2
 have h3' : (cancelD D 3).rs[2]? = some (c.ended 6) := by rw [q4]; rfl
 have q5 := cancelB_at h3'
 obtain ⟨q6, q7⟩ := cancelD_at h3'
 rw [e3] at q5 q6 q7
 rw [if_pos (show (c.ended 6).tk = none from rfl), q4] at q6
 refine ⟨?_, q5, ⟨⟨a, b, c.ended 6, q6, hst, h1, h2, hb, hbt, rfl, rfl⟩, by rw [q7, q3, hcl]; rfl⟩⟩
 rw [q1]
 cases ht : c.tk with
 | none => exact absurd ht hc
 | some t => rfl
theorem TV.close {u : Int} {s0 : Nat} {i0 : Int} {j : Nat} {D : Dk} (h : TV u s0 i0 j D) : ∃ a b c : Rq, (cancelN D D.rs.length).rs = [a, b, c] /\ a.is = (if u <= j then 5 else 6) /\ b.is = 6 /\ b.tk = none := by
 obtain ⟨a, b, c, hrs, hst, h1, h2, hb, ⟨tb, htb, htl⟩, hc, hct⟩ := h.ex
 have hl : D.rs.length = 3 := by rw [hrs]; rfl
 rw [hl]
 have e : cancelN D 3 = cancelD (cancelD (cancelD D ((0 : Nat) + 1)) ((1 : Nat) + 1)) ((2 : Nat) + 1) := rfl
 rw [e]
 obtain ⟨a', ha', hais⟩ : ∃ a', (cancelD D (((0 : Nat) : Int) + 1)).rs = [a', b, c] /\ a'.is = (if u <= j then 5 else 6) := by
  have g := (cancelD_at (D := D) (n := 0) (r := a) (by rw [hrs]; rfl)).1
  by_cases hu : u <= j
  ·obtain ⟨q1, q2⟩ := h1 hu
   rw [if_pos q2, hrs] at g
   exact ⟨a, g, by rw [if_pos hu]; exact q1⟩
  ·obtain ⟨q1, t, q2, q3⟩ := h2 hu
   rw [if_neg (by rw [q2]; simp), hrs] at g
   exact ⟨a.ended 6, g, by rw [if_neg hu]; rfl⟩
 have g2 := (cancelD_at (D := cancelD D (((0 : Nat) : Int) + 1)) (n := 1) (r := b) (by rw [ha']; rfl)).1
 rw [if_neg (by rw [htb]; simp), ha'] at g2
 have g3 := (cancelD_at (D := cancelD (cancelD D (((0 : Nat) : Int) + 1)) (((1 : Nat) : Int) + 1)) (n := 2) (r := c) (by rw [g2]; rfl)).1
 rw [if_pos hct, g2] at g3
 exact ⟨a', b.ended 6, c, g3, hais, rfl, rfl⟩
def CheckP (xs now : List ByteArray) (s : ByteArray) (w : World) (e : Ending) (w' : World) : Prop :=
 ∃ (bo : Bool) (er : Int), e = .returned (.tuple #[.bool bo, .int .i64 er]) /\ Below w.heap.size w w' /\ er = (if queOk s = false \/ queC s = false then 4 else if hasR xs (queX s) = false then 5 else 0) /\ (bo = true ↔ er = 0 /\ ∃ u, InN (tsOf now) xs u (queX s) /\ thT u = thT (queY s))
theorem check_any (HN : Hid NodeC) (HW : Hid TWayC) {U xs now : List ByteArray} {b : Nat} {g : Pg} {w : World} (h : GateQ U xs now b g w) (s : ByteArray) (hs : s.size <= maxLen) (hQ : queOk s = true -> hasR xs (queX s) = true -> QueOk U s) (hO : okNd (queX s)) :
  Calls Tryz.prog 21 #[.pointer (some ⟨b, 0, none⟩), .string s] w (CheckP xs now s w) := by
 have hrq := readQuestion_any s w hs
 have HNO : Hid (∀ er : Int, er ≠ 0 -> er = (if queOk s = false \/ queC s = false then 4 else if hasR xs (queX s) = false then 5 else 0) -> ∀ w', Below w.heap.size w w' -> CheckP xs now s w (.returned (.tuple #[.bool false, .int .i64 er])) w') := by
  intro er he0 he w' hb
  exact ⟨false, er, rfl, hb, he, ⟨(fun e => by cases e), fun e => absurd e.1 he0⟩⟩
 cases hok : queOk s
 ·rw [hok, queVal_no hok] at hrq
  have H4 : Hid (∀ w', Below w.heap.size w w' -> CheckP xs now s w (.returned (.tuple #[.bool false, .int .i64 4])) w') := HNO.out 4 (by decide) (by rw [hok]; rfl)
  generalize CheckP xs now s w = P at *
  clear h hs hQ hO hok HNO HN HW
  go_enter Tryz.func21, Tryz.ntmps21
  go_wp2_with (go_at_call 45; refine hrq.mono ?_; rintro e w1 ⟨rfl, hb1⟩)
  exact H4.out _ (hb1.alloc hb1.size _)
 ·rw [hok, queVal_yes hok] at hrq
  have HIC : Hid (∀ w1, Calls Tryz.prog 46 #[.agg #[.string (queX s).k, .string (queX s).n, .string (queX s).r, .string (queY s).k, .string (queY s).n, .string (queY s).r]] w1 fun e w' => e = .returned (.bool (queC s)) /\ Below w1.heap.size w1 w') := fun w1 => isCheck_any _ _ _ _ _ _ w1
  cases hc : queC s
  ·rw [hc] at HIC
   have H4 : Hid (∀ w', Below w.heap.size w w' -> CheckP xs now s w (.returned (.tuple #[.bool false, .int .i64 4])) w') := HNO.out 4 (by decide) (by rw [hok, hc]; rfl)
   generalize CheckP xs now s w = P at *
   generalize queX s = x at *
   generalize queY s = y at *
   clear h hs hQ hO hok HNO HN HW hc
   go_enter Tryz.func21, Tryz.ntmps21
   go_wp2_with (first | (go_at_call 45; refine hrq.mono ?_; rintro e w1 ⟨rfl, hb1⟩) | (go_at_call 46; refine (HIC.out _).mono ?_; rintro e w2 ⟨rfl, hb2⟩; have hbB : Below w.heap.size w w2 := (hb1.alloc hb1.size _).trans (hb2.mono (by have := hb1.size; simp; omega))))
   exact H4.out _ hbB
  ·rw [hc] at HIC
   have HRU : Hid (∀ w1, Below w.heap.size w w1 -> Calls Tryz.prog 47 #[.pointer (some ⟨b, 0, none⟩), .agg #[.string (queX s).k, .string (queX s).n, .string (queX s).r]] w1 fun e w' => e = .returned (.bool (hasR xs (queX s))) /\ Below w1.heap.size w1 w') := fun w1 hb => hasR_any (h.to hb.block) hO
   cases hr : hasR xs (queX s)
   ·rw [hr] at HRU
    have H5 : Hid (∀ w', Below w.heap.size w w' -> CheckP xs now s w (.returned (.tuple #[.bool false, .int .i64 5])) w') := HNO.out 5 (by decide) (by rw [hok, hc, hr]; rfl)
    generalize CheckP xs now s w = P at *
    generalize queX s = x at *
    generalize queY s = y at *
    clear h hs hQ hO hok HNO HN HW hc hr
    go_enter Tryz.func21, Tryz.ntmps21
    go_wp2_with (first | (go_at_call 45; refine hrq.mono ?_; rintro e w1 ⟨rfl, hb1⟩) | (go_at_call 46; refine (HIC.out _).mono ?_; rintro e w2 ⟨rfl, hb2⟩; have hbB : Below w.heap.size w w2 := (hb1.alloc hb1.size _).trans (hb2.mono (by have := hb1.size; simp; omega)); have k0 := hb2.cell (p := ⟨w1.heap.size, 0, none⟩) (by simp); have k1 := hb2.cell (p := ⟨w1.heap.size, 1, none⟩) (by simp); have k2 := hb2.cell (p := ⟨w1.heap.size, 2, none⟩) (by simp)) | (go_at_call 47; refine (HRU.out _ hbB).mono ?_; rintro e w3 ⟨rfl, hb3⟩))
    exact H5.out _ (hbB.trans (hb3.mono hbB.size))
   ·rw [hr] at HRU
    have q := hQ hok hr
    have HAQ : Hid (∀ (wq : World) (qb : Nat), Below w.heap.size w wq -> wq.heap[qb]? = some (.cells (queL (queX s) (queY s)).toArray 77 (0, 0)) -> Calls Tryz.prog 42 #[.pointer (some ⟨b, 0, none⟩)] wq fun e w1 => ∃ tb, e = .returned (.pointer (some ⟨tb, 0, none⟩)) /\ w1.heap[qb]? = some (.cells (queL (queX s) (queY s)).toArray 77 (0, 0)) /\ Hid (∀ w1', Below w1.heap.size w1 w1' -> Calls Tryz.prog 43 #[.pointer (some ⟨tb, 0, none⟩), .agg #[.string (queX s).k, .string (queX s).n, .string (queX s).r]] w1' fun e w2 => ∃ wb, e = .returned (.pointer (some ⟨wb, 0, none⟩)) /\ w2.heap[qb]? = some (.cells (queL (queX s) (queY s)).toArray 77 (0, 0)) /\ Hid (∀ w2', Below w2.heap.size w2 w2' -> Calls Tryz.prog 48 #[.pointer (some ⟨wb, 0, none⟩), .agg #[.string (queY s).k, .string (queY s).n, .string (queY s).r]] w2' fun e w' => ∃ bo, e = .returned (.bool bo) /\ CheckP xs now s w (.returned (.tuple #[.bool bo, .int .i64 0])) w'))) := by
     intro wq qb hb hq
     refine (ask_q HN HW (h.to hb.block) q.ok q.th q.rU hq).mono ?_
     rintro e w1 ⟨tb, he, hq1, HC⟩
     refine ⟨tb, he, hq1, ?_⟩
     intro w1' hb1
     refine (HC.out w1' hb1).mono ?_
     rintro e w2 ⟨wb, he2, hq2, hA⟩
     refine ⟨wb, he2, hq2, ?_⟩
     intro w2' hb2
     refine (hA.out.has w2' hb2 (queY s) q.sz).mono ?_
     rintro e w' ⟨bo, he3, hiff, hbw⟩
     exact ⟨bo, he3, bo, 0, rfl, hb.trans (hbw.mono hb.size), by rw [hok, hc, hr]; rfl, hiff.trans ⟨fun e => ⟨rfl, e⟩, fun e => e.2⟩⟩
    generalize CheckP xs now s w = P at *
    clear q hQ hO
    generalize queX s = x at *
    generalize queY s = y at *
    clear h hs hok HNO HN HW hc hr
    go_enter Tryz.func21, Tryz.ntmps21
    go_wp2_with (first | (go_at_call 45; refine hrq.mono ?_; rintro e w1 ⟨rfl, hb1⟩) | (go_at_call 46; refine (HIC.out _).mono ?_; rintro e w2 ⟨rfl, hb2⟩; have hbB : Below w.heap.size w w2 := (hb1.alloc hb1.size _).trans (hb2.mono (by have := hb1.size; simp; omega)); have k0 := hb2.cell (p := ⟨w1.heap.size, 0, none⟩) (by simp); have k1 := hb2.cell (p := ⟨w1.heap.size, 1, none⟩) (by simp); have k2 := hb2.cell (p := ⟨w1.heap.size, 2, none⟩) (by simp); have hq2 : w2.heap[w1.heap.size]? = some (.cells (queL x y).toArray 77 (0, 0)) := (hb2.block _ (by simp)).trans (alloc_new w1 (queL x y) _)) | (go_at_call 47; refine (HRU.out _ hbB).mono ?_; rintro e w3 ⟨rfl, hb3⟩))
    have hbC : Below w.heap.size w w3 := hbB.trans (hb3.mono hbB.size)
    have hq3 : w3.heap[w1.heap.size]? = some (.cells (queL x y).toArray 77 (0, 0)) := (hb3.block _ (row_lt hq2)).trans hq2
    have HNW : Hid _ := HAQ.out w3.drew w1.heap.size hbC.drew hq3
    have l0 : w3.drew.cell? ⟨w1.heap.size, 0, none⟩ = some (.string x.k) := row_cell hq3 (j := 0) rfl
    have l1 : w3.drew.cell? ⟨w1.heap.size, 1, none⟩ = some (.string x.n) := row_cell hq3 (j := 1) rfl
    have l2 : w3.drew.cell? ⟨w1.heap.size, 2, none⟩ = some (.string x.r) := row_cell hq3 (j := 2) rfl
    have l3 : w3.drew.cell? ⟨w1.heap.size, 3, none⟩ = some (.string y.k) := row_cell hq3 (j := 3) rfl
    have l4 : w3.drew.cell? ⟨w1.heap.size, 4, none⟩ = some (.string y.n) := row_cell hq3 (j := 4) rfl
    have l5 : w3.drew.cell? ⟨w1.heap.size, 5, none⟩ = some (.string y.r) := row_cell hq3 (j := 5) rfl
    clear HAQ hq3 hq2 hbC hbB hb3 hb2 hb1 HIC HRU k0 k1 k2
    go_region_with (first | (go_at_call 42; refine (Calls.mono HNW.out) ?_; rintro e w4 ⟨tb, rfl, hq4, HWK⟩; have m0 := row_cell hq4 (j := 0) rfl; have m1 := row_cell hq4 (j := 1) rfl; have m2 := row_cell hq4 (j := 2) rfl; have m3 := row_cell hq4 (j := 3) rfl; have m4 := row_cell hq4 (j := 4) rfl; have m5 := row_cell hq4 (j := 5) rfl; clear hq4) | (go_at_call 43; refine (HWK.out _ (by repeat (first | exact Below.refl _ _ | refine Below.setCell ?_ (by first | exact Nat.le_refl _ | (simp; done) | (simp; omega)) _ | refine below_drewN ?_ _ | refine Below.drew ?_ | refine Below.alloc ?_ (by first | exact Nat.le_refl _ | (simp; done) | (simp; omega)) _))).mono ?_; rintro e w5 ⟨wb, rfl, hq5, HWH⟩; have p3 := row_cell hq5 (j := 3) rfl; have p4 := row_cell hq5 (j := 4) rfl; have p5 := row_cell hq5 (j := 5) rfl; clear hq5) | (go_at_call 48; refine (HWH.out _ (by repeat (first | exact Below.refl _ _ | refine Below.setCell ?_ (by first | exact Nat.le_refl _ | (simp; done) | (simp; omega)) _ | refine below_drewN ?_ _ | refine Below.drew ?_ | refine Below.alloc ?_ (by first | exact Nat.le_refl _ | (simp; done) | (simp; omega)) _))).mono ?_; rintro e w6 ⟨bo, rfl, hp⟩))
    all_goals go_wp2
    all_goals exact bodyPost_ret (v := .tuple #[.bool bo, .int .i64 0]) (by simp [results, Tryz.results21, go_sem]) rfl hp
def smN (x : Nod) : Prop := x.k.size <= 1000 /\ x.n.size <= 1000 /\ x.r.size <= 1000
def nodL (x : Nod) : List Value := [.string x.k, .string x.n, .string x.r]
def zeroN : List Value := [.string { data := #[] }, .string { data := #[] }, .string { data := #[] }]
theorem nodeClone_any (x : Nod) (hx : smN x) (w : World) : Calls Tryz.prog 109 #[.agg #[.string x.k, .string x.n, .string x.r]] w fun e w' => e = .returned (.agg #[.string x.k, .string x.n, .string x.r]) /\ Below w.heap.size w w' := by
 obtain ⟨h1, h2, h3⟩ := hx
 have hb0 : Below w.heap.size w ((w.alloc (.cells (nodL x).toArray 75)).alloc (.cells zeroN.toArray 75)) := by repeat (first | exact Below.refl _ _ | refine Below.setCell ?_ (by first | exact Nat.le_refl _ | (simp; done) | (simp; omega)) _ | refine below_drewN ?_ _ | refine Below.drew ?_ | refine Below.alloc ?_ (by first | exact Nat.le_refl _ | (simp; done) | (simp; omega)) _)
 have hq0 : ((w.alloc (.cells (nodL x).toArray 75)).alloc (.cells zeroN.toArray 75)).heap[w.heap.size]? = some (.cells (nodL x).toArray 75 (0, 0)) := alloc_row (alloc_new w (nodL x) _) _
 have hr0 : ((w.alloc (.cells (nodL x).toArray 75)).alloc (.cells zeroN.toArray 75)).heap[w.heap.size + 1]? = some (.cells zeroN.toArray 75 (0, 0)) := by
  have h1 := alloc_new (w.alloc (.cells (nodL x).toArray 75)) zeroN 75
  have e : (w.alloc (.cells (nodL x).toArray 75)).heap.size = w.heap.size + 1 := by show (w.heap.push _).size = _; simp
  rw [e] at h1
  exact h1
 obtain ⟨w0, hw0⟩ : ∃ w0, ((w.alloc (.cells (nodL x).toArray 75)).alloc (.cells zeroN.toArray 75)) = w0 := ⟨_, rfl⟩
 rw [hw0] at hb0 hq0 hr0
 have HC : Hid (∀ w1, Below w0.heap.size w0 w1 -> w1.cell? ⟨w.heap.size, 0, none⟩ = some (.string x.k) /\ w1.cell? ⟨w.heap.size, 1, none⟩ = some (.string x.n) /\ w1.cell? ⟨w.heap.size, 2, none⟩ = some (.string x.r) /\ w1.cell? ⟨w.heap.size + 1, 0, none⟩ = some (.string { data := #[] }) /\ w1.cell? ⟨w.heap.size + 1, 1, none⟩ = some (.string { data := #[] }) /\ w1.cell? ⟨w.heap.size + 1, 2, none⟩ = some (.string { data := #[] }) /\ w1.frozen? ⟨w.heap.size + 1, 0, none⟩ = false /\ w1.frozen? ⟨w.heap.size + 1, 1, none⟩ = false /\ w1.frozen? ⟨w.heap.size + 1, 2, none⟩ = false) := by
  intro w1 hb1
  have hq1 := (hb1.block _ (row_lt hq0)).trans hq0
  have hr1 := (hb1.block _ (row_lt hr0)).trans hr0
  exact ⟨row_cell hq1 (j := 0) rfl, row_cell hq1 (j := 1) rfl, row_cell hq1 (j := 2) rfl, row_cell hr1 (j := 0) rfl, row_cell hr1 (j := 1) rfl, row_cell hr1 (j := 2) rfl, row_frozen hr1 0, row_frozen hr1 1, row_frozen hr1 2⟩
 have HCL : Hid (∀ (s : ByteArray) (w1 : World), s.size <= 1000 -> Below w0.heap.size w0 w1 -> Calls Tryz.prog 102 #[.string s] w1 fun e w' => e = .returned (.string s) /\ Below w0.heap.size w0 w') := by
  intro s w1 hs hb1
  refine (stringsClone_any s w1 (by omega)).mono ?_
  rintro e w' ⟨he, hb⟩
  exact ⟨he, hb1.trans (hb.mono hb1.size)⟩
 have HK : Hid (∀ w1, Below w0.heap.size w0 w1 -> Calls Tryz.prog 102 #[.string x.k] w1 fun e w2 => e = .returned (.string x.k) /\ w2.cell? ⟨w.heap.size, 1, none⟩ = some (.string x.n) /\ w2.cell? ⟨w.heap.size, 2, none⟩ = some (.string x.r) /\ Hid (Calls Tryz.prog 102 #[.string x.n] w2 fun e w3 => e = .returned (.string x.n) /\ w3.cell? ⟨w.heap.size, 2, none⟩ = some (.string x.r) /\ Hid (Calls Tryz.prog 102 #[.string x.r] w3 fun e w4 => e = .returned (.string x.r) /\ w4.cell? ⟨w.heap.size + 1, 0, none⟩ = some (.string { data := #[] }) /\ w4.cell? ⟨w.heap.size + 1, 1, none⟩ = some (.string { data := #[] }) /\ w4.cell? ⟨w.heap.size + 1, 2, none⟩ = some (.string { data := #[] }) /\ w4.frozen? ⟨w.heap.size + 1, 0, none⟩ = false /\ w4.frozen? ⟨w.heap.size + 1, 1, none⟩ = false /\ w4.frozen? ⟨w.heap.size + 1, 2, none⟩ = false /\ Hid (Below w.heap.size w w4)))) := by
  intro w1 hb1
  refine (HCL.out x.k w1 h1 hb1).mono ?_
  rintro e w2 ⟨he2, hb2⟩
  obtain ⟨-, m1, m2, -⟩ := HC.out w2 hb2
  refine ⟨he2, m1, m2, ?_⟩
  refine (HCL.out x.n w2 h2 hb2).mono ?_
  rintro e w3 ⟨he3, hb3⟩
  obtain ⟨-, -, m2, -⟩ := HC.out w3 hb3
  refine ⟨he3, m2, ?_⟩
  refine (HCL.out x.r w3 h3 hb3).mono ?_
  rintro e w4 ⟨he4, hb4⟩
  obtain ⟨-, -, -, p0, p1, p2, z0, z1, z2⟩ := HC.out w4 hb4
  exact ⟨he4, p0, p1, p2, z0, z1, z2, hb0.trans (hb4.mono hb0.size)⟩
 obtain ⟨l0, l1, l2, -⟩ := HC.out w0 (Below.refl _ _)
 have hw1 : ((w.alloc (.cells #[.string x.k, .string x.n, .string x.r] 75)).alloc (.cells #[.string { data := #[] }, .string { data := #[] }, .string { data := #[] }] 75)) = w0 := hw0
 clear hw0 hb0 hq0 hr0 HC HCL
 generalize x.k = k at *
 generalize x.n = n at *
 generalize x.r = r at *
 go_enter Tryz.func109, Tryz.ntmps109
 go_wp2
 clear hw1
 go_region_with (first | (go_at_call 102; refine (HK.out _ (by repeat (first | exact Below.refl _ _ | refine Below.setCell ?_ (by first | exact Nat.le_refl _ | (simp; done) | (simp; omega)) _ | refine below_drewN ?_ _ | refine Below.drew ?_ | refine Below.alloc ?_ (by first | exact Nat.le_refl _ | (simp; done) | (simp; omega)) _))).mono ?_; rintro e w2 ⟨rfl, m1, m2, HN⟩; clear HK l0 l1 l2) | (go_at_call 102; refine (Calls.mono HN.out) ?_; rintro e w3 ⟨rfl, m3, HR⟩; clear HN m1 m2) | (go_at_call 102; refine (Calls.mono HR.out) ?_; rintro e w4 ⟨rfl, p0, p1, p2, z0, z1, z2, HB⟩; clear HR m3))
 all_goals go_wp2
 all_goals
  refine bodyPost_ret (v := .agg #[.string k, .string n, .string r]) (by simp [results, Tryz.results109, go_sem, p0, p1, p2]) rfl ⟨rfl, ?_⟩
  exact ((HB.out.setCell (by show w.heap.size <= w.heap.size + 1; omega) _).setCell (by show w.heap.size <= w.heap.size + 1; omega) _).setCell (by show w.heap.size <= w.heap.size + 1; omega) _
theorem gateRead2 {xs : List ByteArray} {b : Nat} {w : World} (s : ByteArray) (h : ∀ w1, Below w.heap.size w w1 -> Calls Tryz.prog 47 #[.pointer (some ⟨b, 0, none⟩), .agg #[.string (queX s).k, .string (queX s).n, .string (queX s).r]] w1 fun e w' => e = .returned (.bool (hasR xs (queX s))) /\ Below w1.heap.size w1 w') (hs : s.size <= maxLen) :
  Calls Tryz.prog 41 #[.pointer (some ⟨b, 0, none⟩), .string s] w fun e w' => e = .returned (.tuple #[askV xs s, .int .i64 (askE xs s)]) /\ Below w.heap.size w w' := by
 have hrq := fun w1 => readQuestion_any s w1 hs
 cases hok : queOk s
 ·rw [hok, queVal_no hok] at hrq
  have HV : Hid (askV xs s = zeroQ /\ askE xs s = 4) := by
   have e : askE xs s = 4 := if_pos hok
   refine ⟨?_, e⟩
   unfold askV; rw [e]; exact if_neg (by decide)
  obtain ⟨v1, v2⟩ := HV.out
  rw [v1, v2]
  unfold zeroQ
  clear h hs hok HV v1 v2
  go_enter Tryz.func41, Tryz.ntmps41
  go_wp2_with (go_at_call 45; refine (hrq _).mono ?_; rintro e w1 ⟨rfl, hb1⟩; have hz1 : w.heap.size < w1.heap.size := (by have := hb1.size; simp at this; omega); have hc0 := fun o => hb1.cell (p := ⟨w.heap.size, o, none⟩) (by simp); have hf0 := fun o => hb1.frozen (p := ⟨w.heap.size, o, none⟩) (by simp); have hn0 : ¬ w.heap.size = w1.heap.size := (by omega); have hn1 : ¬ w1.heap.size = w.heap.size := (by omega))
  have hB1 : Below w.heap.size w w1 := ((Below.refl w.heap.size w).alloc (Nat.le_refl _) _).trans (hb1.mono (by simp))
  refine bodyPost_ret (v := .tuple #[.agg #[.string noneB, .string noneB, .string noneB, .string noneB, .string noneB, .string noneB], .int .i64 4]) (by simp [results, Tryz.results41, go_sem, hc0, hz1, noneB]) rfl ⟨rfl, ?_⟩
  refine Below.alloc ?_ (by simp; omega) _
  refine Below.setCell ?_ (by simp) _
  refine Below.setCell ?_ (by simp) _
  refine Below.setCell ?_ (by simp) _
  refine Below.setCell ?_ (by simp) _
  refine Below.setCell ?_ (by simp) _
  refine Below.setCell ?_ (by simp) _
  exact hB1
 ·rw [hok, queVal_yes hok] at hrq
  have HRU : Hid (∀ w1, Below w.heap.size w w1 -> Calls Tryz.prog 47 #[.pointer (some ⟨b, 0, none⟩), .agg #[.string (queX s).k, .string (queX s).n, .string (queX s).r]] w1 fun e w' => e = .returned (.bool (hasR xs (queX s))) /\ Below w1.heap.size w1 w') := h
  cases hr : hasR xs (queX s)
  ·rw [hr] at HRU
   have HV : Hid (askV xs s = zeroQ /\ askE xs s = 5) := by
    have e : askE xs s = 5 := by unfold askE; rw [hok, hr]; rfl
    refine ⟨?_, e⟩
    unfold askV; rw [e]; exact if_neg (by decide)
   obtain ⟨v1, v2⟩ := HV.out
   rw [v1, v2]
   unfold zeroQ
   clear h
   generalize queX s = x at *
   generalize queY s = y at *
   clear hs hok HV v1 v2 hr
   go_enter Tryz.func41, Tryz.ntmps41
   go_wp2_with (first | (go_at_call 45; refine (hrq _).mono ?_; rintro e w1 ⟨rfl, hb1⟩; have hz1 : w.heap.size < w1.heap.size := (by have := hb1.size; simp at this; omega); have hn0 : ¬ w.heap.size = w1.heap.size := (by omega); have hn1 : ¬ w1.heap.size = w.heap.size := (by omega); have hB1 : Below w.heap.size w w1 := ((Below.refl w.heap.size w).alloc (Nat.le_refl _) _).trans (hb1.mono (by simp))) | (go_at_call 47; refine (HRU.out _ (hB1.alloc hB1.size _)).mono ?_; rintro e w2 ⟨rfl, hb2⟩; have hz2 : w.heap.size < w2.heap.size := (by have := hb2.size; simp at this; omega); have hb12 : Below (w.heap.size + 1) _ w2 := ((hb1.mono (by simp)).trans ((((Below.refl (w.heap.size + 1) w1).alloc (by omega) _).trans (hb2.mono (by simp; omega))))); have hc0 := fun o => hb12.cell (p := ⟨w.heap.size, o, none⟩) (by simp); have hf0 := fun o => hb12.frozen (p := ⟨w.heap.size, o, none⟩) (by simp)))
   have hB2 : Below w.heap.size w w2 := (hB1.alloc hB1.size _).trans (hb2.mono (by simp; omega))
   refine bodyPost_ret (v := .tuple #[.agg #[.string noneB, .string noneB, .string noneB, .string noneB, .string noneB, .string noneB], .int .i64 5]) (by simp [results, Tryz.results41, go_sem, hc0, noneB]) rfl ⟨rfl, ?_⟩
   refine Below.setCell ?_ (by simp) _
   refine Below.setCell ?_ (by simp) _
   refine Below.setCell ?_ (by simp) _
   refine Below.setCell ?_ (by simp) _
   refine Below.setCell ?_ (by simp) _
   refine Below.setCell ?_ (by simp) _
   exact hB2
  ·rw [hr] at HRU
   have HV : Hid (askV xs s = .agg #[.string (queX s).k, .string (queX s).n, .string (queX s).r, .string (queY s).k, .string (queY s).n, .string (queY s).r] /\ askE xs s = 0) := by
    have e : askE xs s = 0 := by unfold askE; rw [hok, hr]; rfl
    refine ⟨?_, e⟩
    unfold askV; rw [e]; exact if_pos rfl
   obtain ⟨v1, v2⟩ := HV.out
   rw [v1, v2]
   clear HV v1 v2 h
   generalize queX s = x at *
   generalize queY s = y at *
   clear hs hok hr
   go_enter Tryz.func41, Tryz.ntmps41
   go_wp2_with (first | (go_at_call 45; refine (hrq _).mono ?_; rintro e w1 ⟨rfl, hb1⟩; have hz1 : w.heap.size < w1.heap.size := (by have := hb1.size; simp at this; omega); have hn0 : ¬ w.heap.size = w1.heap.size := (by omega); have hn1 : ¬ w1.heap.size = w.heap.size := (by omega); have hB1 : Below w.heap.size w w1 := ((Below.refl w.heap.size w).alloc (Nat.le_refl _) _).trans (hb1.mono (by simp))) | (go_at_call 47; refine (HRU.out _ (hB1.alloc hB1.size _)).mono ?_; rintro e w2 ⟨rfl, hb2⟩; have hz2 : w.heap.size < w2.heap.size := (by have := hb2.size; simp at this; omega); have hb12 : Below (w.heap.size + 1) _ w2 := ((hb1.mono (by simp)).trans ((((Below.refl (w.heap.size + 1) w1).alloc (by omega) _).trans (hb2.mono (by simp; omega))))); have hc0 := fun o => hb12.cell (p := ⟨w.heap.size, o, none⟩) (by simp); have hf0 := fun o => hb12.frozen (p := ⟨w.heap.size, o, none⟩) (by simp); have hc1 := fun o => hb2.cell (p := ⟨w1.heap.size, o, none⟩) (by simp)))
   have hB2 : Below w.heap.size w w2 := (hB1.alloc hB1.size _).trans (hb2.mono (by simp; omega))
   refine bodyPost_ret (v := .tuple #[.agg #[.string x.k, .string x.n, .string x.r, .string y.k, .string y.n, .string y.r], .int .i64 0]) (by simp [results, Tryz.results41, go_sem, hc0]) rfl ⟨rfl, ?_⟩
   refine Below.setCell ?_ (by simp) _
   refine Below.setCell ?_ (by simp) _
   refine Below.setCell ?_ (by simp) _
   refine Below.setCell ?_ (by simp) _
   refine Below.setCell ?_ (by simp) _
   refine Below.setCell ?_ (by simp) _
   exact hB2
def zeroQ6 : List Value := [.string { data := #[] }, .string { data := #[] }, .string { data := #[] }, .string { data := #[] }, .string { data := #[] }, .string { data := #[] }]
theorem que_small {s : ByteArray} (h : queOk s = true) : smN (queX s) /\ smN (queY s) := by
 obtain ⟨k, n, r, hk, hn, hr, hx⟩ := que_parts s h
 have a1 := nameL_len hk
 have a2 := nameL_len hn
 have a3 := nameL_len hr
 have hX : queX s = ⟨mk k, mk n, mk r⟩ := by
  rcases hx with ht | ⟨k2, n2, hk2, hn2, ht⟩
  ·exact (que_no hk hn hr ht).2.2.1
  ·exact (que_yes hk hn hr hk2 hn2 ht).2.2.1
 refine ⟨?_, ?_⟩
 ·rw [hX]; exact ⟨by show (mk k).size <= _; rw [mk_size]; omega, by show (mk n).size <= _; rw [mk_size]; omega, by show (mk r).size <= _; rw [mk_size]; omega⟩
 ·rcases hx with ht | ⟨k2, n2, hk2, hn2, ht⟩
  ·have hs : queY s = ⟨noneB, noneB, noneB⟩ := (que_no hk hn hr ht).2.2.2
   rw [hs]; exact ⟨by show (0 : Nat) <= _; omega, by show (0 : Nat) <= _; omega, by show (0 : Nat) <= _; omega⟩
  ·have a4 := nameL_len hk2
   have a5 := nameL_len hn2
   have hs := (que_yes hk hn hr hk2 hn2 ht).2.2.2
   rw [hs]; exact ⟨by show (mk k2).size <= _; rw [mk_size]; omega, by show (mk n2).size <= _; rw [mk_size]; omega, by show (0 : Nat) <= _; omega⟩
theorem queClone_any (x y : Nod) (hx : smN x) (hy : smN y) (w : World) : Calls Tryz.prog 61 #[.agg #[.string x.k, .string x.n, .string x.r, .string y.k, .string y.n, .string y.r]] w fun e w' => e = .returned (.agg #[.string x.k, .string x.n, .string x.r, .string y.k, .string y.n, .string y.r]) /\ Below w.heap.size w w' := by
 have hb0 : Below w.heap.size w ((w.alloc (.cells (queL x y).toArray 77)).alloc (.cells zeroQ6.toArray 77)) := by repeat (first | exact Below.refl _ _ | refine Below.setCell ?_ (by first | exact Nat.le_refl _ | (simp; done) | (simp; omega)) _ | refine below_drewN ?_ _ | refine Below.drew ?_ | refine Below.alloc ?_ (by first | exact Nat.le_refl _ | (simp; done) | (simp; omega)) _)
 have hq0 : ((w.alloc (.cells (queL x y).toArray 77)).alloc (.cells zeroQ6.toArray 77)).heap[w.heap.size]? = some (.cells (queL x y).toArray 77 (0, 0)) := alloc_row (alloc_new w (queL x y) _) _
 have hr0 : ((w.alloc (.cells (queL x y).toArray 77)).alloc (.cells zeroQ6.toArray 77)).heap[w.heap.size + 1]? = some (.cells zeroQ6.toArray 77 (0, 0)) := by
  have h1 := alloc_new (w.alloc (.cells (queL x y).toArray 77)) zeroQ6 77
  have e : (w.alloc (.cells (queL x y).toArray 77)).heap.size = w.heap.size + 1 := by show (w.heap.push _).size = _; simp
  rw [e] at h1
  exact h1
 obtain ⟨w0, hw0⟩ : ∃ w0, ((w.alloc (.cells (queL x y).toArray 77)).alloc (.cells zeroQ6.toArray 77)) = w0 := ⟨_, rfl⟩
 rw [hw0] at hb0 hq0 hr0
 have HK : Hid (∀ w1, Below w0.heap.size w0 w1 -> Calls Tryz.prog 109 #[.agg #[.string x.k, .string x.n, .string x.r]] w1 fun e w2 => e = .returned (.agg #[.string x.k, .string x.n, .string x.r]) /\ w2.cell? ⟨w.heap.size, 3, none⟩ = some (.string y.k) /\ w2.cell? ⟨w.heap.size, 4, none⟩ = some (.string y.n) /\ w2.cell? ⟨w.heap.size, 5, none⟩ = some (.string y.r) /\ Hid (Calls Tryz.prog 109 #[.agg #[.string y.k, .string y.n, .string y.r]] w2 fun e w3 => e = .returned (.agg #[.string y.k, .string y.n, .string y.r]) /\ Hid (w3.heap[w.heap.size + 1]? = some (.cells zeroQ6.toArray 77 (0, 0))) /\ Hid (Below w.heap.size w w3))) := by
  intro w1 hb1
  refine (nodeClone_any x hx w1).mono ?_
  rintro e w2 ⟨he2, hb2⟩
  have hb02 : Below w0.heap.size w0 w2 := hb1.trans (hb2.mono hb1.size)
  have hq2 := (hb02.block _ (row_lt hq0)).trans hq0
  refine ⟨he2, row_cell hq2 (j := 3) rfl, row_cell hq2 (j := 4) rfl, row_cell hq2 (j := 5) rfl, ?_⟩
  refine (nodeClone_any y hy w2).mono ?_
  rintro e w3 ⟨he3, hb3⟩
  have hb03 : Below w0.heap.size w0 w3 := hb02.trans (hb3.mono hb02.size)
  exact ⟨he3, (hb03.block _ (row_lt hr0)).trans hr0, hb0.trans (hb03.mono hb0.size)⟩
 have l0 : w0.cell? ⟨w.heap.size, 0, none⟩ = some (.string x.k) := row_cell hq0 (j := 0) rfl
 have l1 : w0.cell? ⟨w.heap.size, 1, none⟩ = some (.string x.n) := row_cell hq0 (j := 1) rfl
 have l2 : w0.cell? ⟨w.heap.size, 2, none⟩ = some (.string x.r) := row_cell hq0 (j := 2) rfl
 have l3 : w0.cell? ⟨w.heap.size, 3, none⟩ = some (.string y.k) := row_cell hq0 (j := 3) rfl
 have l4 : w0.cell? ⟨w.heap.size, 4, none⟩ = some (.string y.n) := row_cell hq0 (j := 4) rfl
 have l5 : w0.cell? ⟨w.heap.size, 5, none⟩ = some (.string y.r) := row_cell hq0 (j := 5) rfl
 have hw1 : ((w.alloc (.cells #[.string x.k, .string x.n, .string x.r, .string y.k, .string y.n, .string y.r] 77)).alloc (.cells #[.string { data := #[] }, .string { data := #[] }, .string { data := #[] }, .string { data := #[] }, .string { data := #[] }, .string { data := #[] }] 77)) = w0 := hw0
 clear hw0 hb0 hq0 hr0 hx hy
 go_enter Tryz.func61, Tryz.ntmps61
 go_wp2
 clear hw1
 go_region_with (first | (go_at_call 109; refine (HK.out _ (by repeat (first | exact Below.refl _ _ | refine Below.setCell ?_ (by first | exact Nat.le_refl _ | (simp; done) | (simp; omega)) _ | refine below_drewN ?_ _ | refine Below.drew ?_ | refine Below.alloc ?_ (by first | exact Nat.le_refl _ | (simp; done) | (simp; omega)) _))).mono ?_; rintro e w2 ⟨rfl, m1, m2, m3, HN⟩; clear HK l0 l1 l2 l3 l4 l5) | (go_at_call 109; refine (Calls.mono HN.out) ?_; rintro e w3 ⟨rfl, HR, HB⟩; clear HN m1 m2 m3; have p0 := row_cell HR.out (j := 0) rfl; have p1 := row_cell HR.out (j := 1) rfl; have p2 := row_cell HR.out (j := 2) rfl; have p3 := row_cell HR.out (j := 3) rfl; have p4 := row_cell HR.out (j := 4) rfl; have p5 := row_cell HR.out (j := 5) rfl; have z0 := row_frozen HR.out 0; have z1 := row_frozen HR.out 1; have z2 := row_frozen HR.out 2; have z3 := row_frozen HR.out 3; have z4 := row_frozen HR.out 4; have z5 := row_frozen HR.out 5))
 all_goals go_wp2
 all_goals
  refine bodyPost_ret (v := .agg #[.string x.k, .string x.n, .string x.r, .string y.k, .string y.n, .string y.r]) (by simp [results, Tryz.results61, go_sem, p0, p1, p2, p3, p4, p5]) rfl ⟨rfl, ?_⟩
  exact (((((HB.out.setCell (by show w.heap.size <= w.heap.size + 1; omega) _).setCell (by show w.heap.size <= w.heap.size + 1; omega) _).setCell (by show w.heap.size <= w.heap.size + 1; omega) _).setCell (by show w.heap.size <= w.heap.size + 1; omega) _).setCell (by show w.heap.size <= w.heap.size + 1; omega) _).setCell (by show w.heap.size <= w.heap.size + 1; omega) _
theorem dkFull_any {xs : List ByteArray} {mr : Nat} {R : Nat -> Prop} {db : Nat} {Q : Nat -> Prop} {D : Dk} {tv : Value} {wb : Nat} {ls : List Rl} {w : World} (h : DkAt xs mr R db Q D tv wb ls w) :
  Calls Tryz.prog 58 #[.pointer (some ⟨db, 0, none⟩)] w fun e w' => e = .returned (.bool (fullD D)) /\ Below w.heap.size w w' := by
 have d0 := row_cell h.blk (j := 0) rfl
 have d2 := row_cell h.blk (j := 2) rfl
 obtain ⟨tx, tc, htv⟩ := owns_form h.row
 rw [htv, h.len] at d2
 have HWT : Hid (∀ w1, Below w.heap.size w w1 -> Calls Tryz.prog 107 #[.pointer (some ⟨db, 0, none⟩)] w1 fun e w' => e = .returned (.int .i64 (waitN D.rs : Nat)) /\ w' = w1) := fun w1 hb => dkWaiting_any (h.below hb)
 unfold fullD
 generalize waitN D.rs = wn at *
 have h30 := h.ok.rl
 generalize D.rs.length = N at *
 generalize D.qu = qu at *
 clear h htv
 by_cases hN : 30 <= N
 ·have hq : decide ((30 : Int) <= (N : Nat)) = true := decide_eq_true (by omega)
  have e1 : decide (30 <= N) = true := decide_eq_true hN
  rw [e1, Bool.true_or]
  clear e1
  go_enter Tryz.func58, Tryz.ntmps58
  go_wp2
  go_region
  all_goals go_wp2
  all_goals go_ret
  all_goals exact ⟨rfl, by repeat (first | exact Below.refl _ _ | refine Below.setCell ?_ (by first | exact Nat.le_refl _ | (simp; done) | (simp; omega)) _ | refine below_drewN ?_ _ | refine Below.drew ?_ | refine Below.alloc ?_ (by first | exact Nat.le_refl _ | (simp; done) | (simp; omega)) _)⟩
 ·have hq : decide ((30 : Int) <= (N : Nat)) = false := decide_eq_false (by omega)
  have e1 : decide (30 <= N) = false := decide_eq_false hN
  rw [e1, Bool.false_or]
  clear e1
  go_enter Tryz.func58, Tryz.ntmps58
  go_wp2
  go_region_with (go_at_call 107; refine (HWT.out _ (by repeat (first | exact Below.refl _ _ | refine Below.setCell ?_ (by first | exact Nat.le_refl _ | (simp; done) | (simp; omega)) _ | refine below_drewN ?_ _ | refine Below.drew ?_ | refine Below.alloc ?_ (by first | exact Nat.le_refl _ | (simp; done) | (simp; omega)) _))).mono ?_; rintro e w1 ⟨rfl, hw1⟩; subst w1)
  all_goals go_wp2
  all_goals go_ret
  all_goals exact ⟨rfl, by repeat (first | exact Below.refl _ _ | refine Below.setCell ?_ (by first | exact Nat.le_refl _ | (simp; done) | (simp; omega)) _ | refine below_drewN ?_ _ | refine Below.drew ?_ | refine Below.alloc ?_ (by first | exact Nat.le_refl _ | (simp; done) | (simp; omega)) _)⟩
structure GPl (U xs now : List ByteArray) : Prop where
 tups : TupsOk U now
 uok : UOk U
 cov : Cov U xs
 sz : ∀ t ∈ tsOf now, t.2.isTh = true -> t.2.k.size + 1 + t.2.n.size <= maxLen
 inj : ∀ t ∈ tsOf now, ∀ t' ∈ tsOf now, t.2.isTh = true -> t'.2.isTh = true -> thT t.2 = thT t'.2 -> t.2 = t'.2
theorem GateQ.pl {U xs now : List ByteArray} {b : Nat} {g : Pg} {w : World} (h : GateQ U xs now b g w) : GPl U xs now := ⟨h.tups, h.uok, h.cov, h.sz, h.inj⟩
theorem wk_new {U xs now : List ByteArray} (h : GPl U xs now) {lo tb : Nat} {f : Nod -> Option Value} {who : Nod -> Nat} {L : TL} {S : TS} {w1 w1' w1'' w2 : World} (hB : Bld U (tsOf now) xs lo tb f who L S w1 w1') {x : Nod} {wb nb mb sb : Nat} {L' : TL} {S' : TS} {sv : Value} (hN : WNew U (tsOf now) xs lo tb f who L S w1'' x wb nb mb sb L' S' sv w2) {mr : Nat} (hm : L'.mb = mr) : WkAt xs now x mr (fun k => lo <= k /\ k < w2.heap.size) wb [x] 0 w2 := by
 have hu : S'.uss = S.uss := hN.uss
 have hmem : ∀ u, u ∈ S'.uss ↔ u.isTh = true /\ ∃ t ∈ tsOf now, t.2 = u := by rw [hu]; exact hB.us
 refine ⟨⟨U, lo, tb, sb, f, who, nb, mb, L', S', sv, hN.wa, hN.wa.inLo hN.low, hm, ⟨h.cov, hB.sm, by rw [hu]; exact hB.th, hB.no, by rw [hu]; exact Nat.le_trans hB.ul hB.ta.tn, ?_, ?_, hmem⟩⟩, ⟨rfl, fun y hy => by rw [List.mem_singleton] at hy; rw [hy]; exact Rch.here, fun i y hi => by omega⟩, fun k e => e.2⟩
 ·intro u hu
  obtain ⟨h1, t, ht, e⟩ := (hmem u).1 hu
  subst e
  exact h.sz t ht h1
 ·intro i j u v hi hj e
  obtain ⟨h1, t, ht, e1⟩ := (hmem u).1 (List.mem_of_getElem? hi)
  obtain ⟨h2, t', ht', e2⟩ := (hmem v).1 (List.mem_of_getElem? hj)
  subst e1 e2
  have := h.inj t ht t' ht' h1 h2 e
  have nd : S'.uss.Nodup := hN.wa.ta.t.us.nd
  rw [this] at hi
  exact (List.getElem?_inj (List.getElem?_eq_some_iff.1 hi).1 nd).1 (hi.trans hj.symm)
def TaskP (xs now : List ByteArray) (x : Nod) (mr lo : Nat) (w w' : World) (wkb : Nat) : Prop :=
 Below w.heap.size w w' /\ ∃ O : Nat -> Prop, WkAt xs now x mr O wkb [x] 0 w' /\ ∀ k, O k -> lo <= k
theorem TaskP.low {xs now : List ByteArray} {x : Nod} {mr lo lo' : Nat} {w w' : World} {wkb : Nat} (h : TaskP xs now x mr lo w w' wkb) (hl : lo' <= lo) : TaskP xs now x mr lo' w w' wkb := by
 obtain ⟨h1, O, h2, h3⟩ := h
 exact ⟨h1, O, h2, fun k e => Nat.le_trans hl (h3 k e)⟩
theorem frm_more {w w' : World} {b : Nat} (h : Frm (fun k => k = b) w w') (i : Nat) (v : Value) : Frm (fun k => k = b) w (w'.setCell ⟨b, i, none⟩ v) := by
 have h2 : Frm (fun k => k = b) w' (w'.setCell ⟨b, i, none⟩ v) := ⟨rfl, rfl, rfl, by simp [World.setCell], fun k _ hx => Below.heap_setCell _ _ _ _ hx⟩
 exact h.trans h2 fun _ _ e => e
theorem TaskP.set {xs now : List ByteArray} {x : Nod} {mr lo : Nat} {w w3 w4 : World} {wkb : Nat} (h : TaskP xs now x mr lo w w3 wkb) {b : Nat} (h1 : w.heap.size <= b) (h2 : b < lo) {cs : List Value} (hr : w3.heap[b]? = some (.cells cs.toArray 115 (0, 0))) (hf : Frm (fun k => k = b) w3 w4) : TaskP xs now x mr lo w w4 wkb := by
 obtain ⟨hb, O, hk, ho⟩ := h
 refine ⟨hb.trans ⟨hf.os, hf.tape, hf.output, hf.size, fun k hk' => hf.block k (Nat.lt_of_lt_of_le hk' hb.size) (by omega)⟩, O, hk.keep hf.size (fun k e => hf.block k (hk.lt k e) (by have := ho k e; omega)) ?_, ho⟩
 refine hk.rules.move (fun Gd m hm => hf.block _ hm.lt fun e => ?_) fun g cur hg => hf.block g (row_lt hg) fun e => ?_
 ·obtain ⟨es, c, q, -⟩ := hm
  rw [e, hr] at q; injection q with q; cases q
 ·rw [e, hr] at hg; injection hg with hg; injection hg with _ hg; revert hg; decide
theorem task_chain (HN : Hid NodeC) {U xs now : List ByteArray} (h : GPl U xs now) {mb : Nat} {tv : Value} {w w0 : World} (hb0 : Below w.heap.size w w0) (hr : RulesN w0 mb xs) (ht : StrT w0 tv now) {x : Nod} (hx : okNd x) (hth : x.isTh = false) (hru : x.r ∈ U) :
  Calls Tryz.prog 84 #[.map (some mb), tv] w0 fun e w1 => ∃ tb, e = .returned (.pointer (some ⟨tb, 0, none⟩)) /\ Below w0.heap.size w0 w1 /\ Hid (∀ w1', Below w1.heap.size w1 w1' -> Calls Tryz.prog 43 #[.pointer (some ⟨tb, 0, none⟩), .agg #[.string x.k, .string x.n, .string x.r]] w1' fun e w2 => ∃ wb, e = .returned (.pointer (some ⟨wb, 0, none⟩)) /\ Below w0.heap.size w0 w2 /\ Hid (TaskP xs now x mb w0.heap.size w w2 wb)) := by
 refine (of_any2 HN h.uok hr ht.strs h.tups).mono ?_
 rintro e w1 ⟨tb, f, who, L, S, he, hB, hL⟩
 refine ⟨tb, he, hB.b, ?_⟩
 intro w1' hb1
 have hT : TA U (tsOf now) xs w0.heap.size tb w1'.heap.size f who L S w1' := (hB.ta.below hb1).wide (hB.ta.below hb1).sb (Nat.le_refl _)
 refine (walkNew2 HN hT hx hth hru (by have := hB.tl; have := hB.ta.tn; omega)).mono ?_
 rintro e w2 ⟨wb, nb, mb', sb, L', S', sv, he2, hN, hL'⟩
 have hb02 : Below w0.heap.size w0 w2 := (hB.b.trans (hb1.mono hB.b.size)).trans hN.bel
 refine ⟨wb, he2, hb02, hb0.trans (hb02.mono hb0.size), _, wk_new h hB hN (hL'.trans hL), fun k e => e.1⟩
theorem gTask_any (HN : Hid NodeC) {U xs now : List ByteArray} (h : GPl U xs now) {b : Nat} {g : Pg} {w : World} (hg : PgAt w b g) (hr : RulesN w g.mb xs) (ht : StrT w g.tv now) {x y : Nod} (hx : okNd x) (hth : x.isTh = false) (hru : x.r ∈ U) (bud til : Int) :
  Calls Tryz.prog 60 #[.pointer (some ⟨b, 0, none⟩), .agg #[.string x.k, .string x.n, .string x.r, .string y.k, .string y.n, .string y.r], .int .i64 bud, .int .i64 til] w fun e w' => ∃ wkb, e = .returned (.agg #[.string x.k, .string x.n, .string x.r, .string y.k, .string y.n, .string y.r, .pointer (some ⟨wkb, 0, none⟩), .int .i64 bud, .int .i64 til]) /\ TaskP xs now x g.mb w.heap.size w w' wkb := by
 have HOF : Hid (∀ w0, Below w.heap.size w w0 -> Calls Tryz.prog 84 #[.map (some g.mb), g.tv] w0 fun e w1 => ∃ tb, e = .returned (.pointer (some ⟨tb, 0, none⟩)) /\ Below w0.heap.size w0 w1 /\ Hid (∀ w1', Below w1.heap.size w1 w1' -> Calls Tryz.prog 43 #[.pointer (some ⟨tb, 0, none⟩), .agg #[.string x.k, .string x.n, .string x.r]] w1' fun e w2 => ∃ wb, e = .returned (.pointer (some ⟨wb, 0, none⟩)) /\ Below w0.heap.size w0 w2 /\ Hid (TaskP xs now x g.mb w0.heap.size w w2 wb))) := fun w0 hb0 => task_chain HN h hb0 (hr.below hb0) (strT_to ht fun k hk => hb0.block k (strT_own ht k hk).1) hx hth hru
 have c30 := row_cell hg (j := 3) rfl
 have hlt := row_lt hg
 have htv : ∃ o n c, g.tv = .slice o n c := by
  rcases ht with ⟨e, -⟩ | ⟨b, cap, cur, e, -⟩
  ·exact ⟨_, _, _, e⟩
  ·exact ⟨_, _, _, e⟩
 obtain ⟨o, n, c, htv⟩ := htv
 have c3 : w.cell? ⟨b, 3, none⟩ = some (.slice o n c) := by rw [← htv]; exact c30
 have HG : Hid (∀ w0, Below w.heap.size w w0 -> w0.cell? ⟨b, 2, none⟩ = some (.map (some g.mb)) /\ w0.cell? ⟨b, 3, none⟩ = some (.slice o n c)) := by
  intro w0 hb0
  have hg0 := (hb0.block b hlt).trans hg
  exact ⟨row_cell hg0 (j := 2) rfl, by rw [← htv]; exact row_cell hg0 (j := 3) rfl⟩
 clear c3 c30
 rw [htv] at HOF
 generalize g.mb = mb at *
 clear hg hr ht htv h HN
 go_enter Tryz.func60, Tryz.ntmps60
 go_wp2
 have hb0 : Below w.heap.size w ((w.alloc (.cells #[.string x.k, .string x.n, .string x.r, .string y.k, .string y.n, .string y.r] 77)).alloc (.cells #[.string { data := #[] }, .string { data := #[] }, .string { data := #[] }, .string { data := #[] }, .string { data := #[] }, .string { data := #[] }, .pointer none, .int .i64 0, .int .i64 0] 115)) := by repeat (first | exact Below.refl _ _ | refine Below.setCell ?_ (by first | exact Nat.le_refl _ | (simp; done) | (simp; omega)) _ | refine below_drewN ?_ _ | refine Below.drew ?_ | refine Below.alloc ?_ (by first | exact Nat.le_refl _ | (simp; done) | (simp; omega)) _)
 have hq0 : ((w.alloc (.cells #[.string x.k, .string x.n, .string x.r, .string y.k, .string y.n, .string y.r] 77)).alloc (.cells #[.string { data := #[] }, .string { data := #[] }, .string { data := #[] }, .string { data := #[] }, .string { data := #[] }, .string { data := #[] }, .pointer none, .int .i64 0, .int .i64 0] 115)).heap[w.heap.size]? = some (.cells (queL x y).toArray 77 (0, 0)) := alloc_row (alloc_new w (queL x y) _) _
 have hr0 : ((w.alloc (.cells #[.string x.k, .string x.n, .string x.r, .string y.k, .string y.n, .string y.r] 77)).alloc (.cells #[.string { data := #[] }, .string { data := #[] }, .string { data := #[] }, .string { data := #[] }, .string { data := #[] }, .string { data := #[] }, .pointer none, .int .i64 0, .int .i64 0] 115)).heap[w.heap.size + 1]? = some (.cells [.string { data := #[] }, .string { data := #[] }, .string { data := #[] }, .string { data := #[] }, .string { data := #[] }, .string { data := #[] }, .pointer none, .int .i64 0, .int .i64 0].toArray 115 (0, 0)) := by
  have h1 := alloc_new (w.alloc (.cells #[.string x.k, .string x.n, .string x.r, .string y.k, .string y.n, .string y.r] 77)) [.string { data := #[] }, .string { data := #[] }, .string { data := #[] }, .string { data := #[] }, .string { data := #[] }, .string { data := #[] }, .pointer none, .int .i64 0, .int .i64 0] 115
  have e : (w.alloc (.cells #[.string x.k, .string x.n, .string x.r, .string y.k, .string y.n, .string y.r] 77)).heap.size = w.heap.size + 1 := by show (w.heap.push _).size = _; simp
  rw [e] at h1
  exact h1
 generalize ((w.alloc (.cells #[.string x.k, .string x.n, .string x.r, .string y.k, .string y.n, .string y.r] 77)).alloc (.cells #[.string { data := #[] }, .string { data := #[] }, .string { data := #[] }, .string { data := #[] }, .string { data := #[] }, .string { data := #[] }, .pointer none, .int .i64 0, .int .i64 0] 115)) = w0 at *
 have HOF0 : Hid (∀ w1, Below w0.heap.size w0 w1 -> Calls Tryz.prog 84 #[.map (some mb), .slice o n c] w1 fun e w2 => ∃ tb, e = .returned (.pointer (some ⟨tb, 0, none⟩)) /\ w2.cell? ⟨w.heap.size, 0, none⟩ = some (.string x.k) /\ w2.cell? ⟨w.heap.size, 1, none⟩ = some (.string x.n) /\ w2.cell? ⟨w.heap.size, 2, none⟩ = some (.string x.r) /\ Hid (∀ w1', Below w2.heap.size w2 w1' -> Calls Tryz.prog 43 #[.pointer (some ⟨tb, 0, none⟩), .agg #[.string x.k, .string x.n, .string x.r]] w1' fun e w3 => ∃ wb, e = .returned (.pointer (some ⟨wb, 0, none⟩)) /\ Hid (w3.heap[w.heap.size]? = some (.cells (queL x y).toArray 77 (0, 0)) /\ w3.heap[w.heap.size + 1]? = some (.cells [.string { data := #[] }, .string { data := #[] }, .string { data := #[] }, .string { data := #[] }, .string { data := #[] }, .string { data := #[] }, .pointer none, .int .i64 0, .int .i64 0].toArray 115 (0, 0)) /\ TaskP xs now x mb w0.heap.size w w3 wb))) := by
  intro w1 hb1
  have hbw : Below w.heap.size w w1 := hb0.trans (hb1.mono hb0.size)
  have hq1 := (hb1.block _ (row_lt hq0)).trans hq0
  have hr1 := (hb1.block _ (row_lt hr0)).trans hr0
  refine (HOF.out w1 hbw).mono ?_
  rintro e w2 ⟨tb, he, hb2, HK⟩
  have hq2 := (hb2.block _ (row_lt hq1)).trans hq1
  refine ⟨tb, he, row_cell hq2 (j := 0) rfl, row_cell hq2 (j := 1) rfl, row_cell hq2 (j := 2) rfl, ?_⟩
  intro w1' hb1'
  refine (HK.out w1' hb1').mono ?_
  rintro e w3 ⟨wb, he3, hb3, hT⟩
  exact ⟨wb, he3, (hb3.block _ (row_lt hq1)).trans hq1, (hb3.block _ (row_lt hr1)).trans hr1, hT.out.low hb1.size⟩
 obtain ⟨g2, g3⟩ := HG.out w0 hb0
 have l0 : w0.cell? ⟨w.heap.size, 0, none⟩ = some (.string x.k) := row_cell hq0 (j := 0) rfl
 have l1 : w0.cell? ⟨w.heap.size, 1, none⟩ = some (.string x.n) := row_cell hq0 (j := 1) rfl
 have l2 : w0.cell? ⟨w.heap.size, 2, none⟩ = some (.string x.r) := row_cell hq0 (j := 2) rfl
 have hz0 : w.heap.size + 1 < w0.heap.size := row_lt hr0
 clear HOF HG hq0 hr0 hb0
 go_cut [9] from 10 to 22 (fun v w3 => ∃ wb, v = .pointer (some ⟨wb, 0, none⟩) /\ w3.heap[w.heap.size]? = some (.cells (queL x y).toArray 77 (0, 0)) /\ w3.heap[w.heap.size + 1]? = some (.cells [.string { data := #[] }, .string { data := #[] }, .string { data := #[] }, .string { data := #[] }, .string { data := #[] }, .string { data := #[] }, .pointer none, .int .i64 0, .int .i64 0].toArray 115 (0, 0)) /\ TaskP xs now x mb w0.heap.size w w3 wb)
 case first =>
  go_region_with (first | (go_at_call 84; refine (HOF0.out _ (by repeat (first | exact Below.refl _ _ | refine Below.setCell ?_ (by first | exact Nat.le_refl _ | (simp; done) | (simp; omega)) _ | refine below_drewN ?_ _ | refine Below.drew ?_ | refine Below.alloc ?_ (by first | exact Nat.le_refl _ | (simp; done) | (simp; omega)) _))).mono ?_; rintro e w2 ⟨tb, rfl, m0, m1, m2, HWK⟩) | (go_at_call 43; refine (HWK.out _ (by repeat (first | exact Below.refl _ _ | refine Below.setCell ?_ (by first | exact Nat.le_refl _ | (simp; done) | (simp; omega)) _ | refine below_drewN ?_ _ | refine Below.drew ?_ | refine Below.alloc ?_ (by first | exact Nat.le_refl _ | (simp; done) | (simp; omega)) _))).mono ?_; rintro e w3 ⟨wb, rfl, HF⟩))
  all_goals (go_wp2_with fail; go_meet)
  all_goals exact ⟨wb, rfl, HF.out⟩
 case rest =>
  obtain ⟨wb, rfl, hF⟩ := hcut
  obtain ⟨w3, rfl⟩ : ∃ w3, w3 = wc := ⟨_, rfl⟩
  have HF : Hid (w3.heap[w.heap.size]? = some (.cells (queL x y).toArray 77 (0, 0)) /\ w3.heap[w.heap.size + 1]? = some (.cells [.string { data := #[] }, .string { data := #[] }, .string { data := #[] }, .string { data := #[] }, .string { data := #[] }, .string { data := #[] }, .pointer none, .int .i64 0, .int .i64 0].toArray 115 (0, 0)) /\ TaskP xs now x mb w0.heap.size w w3 wb) := hF
  clear hF HOF0
  have hq3 := HF.out.1
  have hr3 := HF.out.2.1
  have p0 := row_cell hq3 (j := 0) rfl
  have p1 := row_cell hq3 (j := 1) rfl
  have p2 := row_cell hq3 (j := 2) rfl
  have p3 := row_cell hq3 (j := 3) rfl
  have p4 := row_cell hq3 (j := 4) rfl
  have p5 := row_cell hq3 (j := 5) rfl
  have r0 := row_cell hr3 (j := 0) rfl
  have r1 := row_cell hr3 (j := 1) rfl
  have r2 := row_cell hr3 (j := 2) rfl
  have r3 := row_cell hr3 (j := 3) rfl
  have r4 := row_cell hr3 (j := 4) rfl
  have r5 := row_cell hr3 (j := 5) rfl
  have r6 := row_cell hr3 (j := 6) rfl
  have r7 := row_cell hr3 (j := 7) rfl
  have r8 := row_cell hr3 (j := 8) rfl
  have z0 := row_frozen hr3 0
  have z1 := row_frozen hr3 1
  have z2 := row_frozen hr3 2
  have z3 := row_frozen hr3 3
  have z4 := row_frozen hr3 4
  have z5 := row_frozen hr3 5
  have z6 := row_frozen hr3 6
  have z7 := row_frozen hr3 7
  have z8 := row_frozen hr3 8
  clear hq3 hr3
  go_wp2
  refine bodyPost_ret (v := .agg #[.string x.k, .string x.n, .string x.r, .string y.k, .string y.n, .string y.r, .pointer (some ⟨wb, 0, none⟩), .int .i64 bud, .int .i64 til]) (by simp [results, Tryz.results60, go_sem, r0, r1, r2, r3, r4, r5, r6, r7, r8]) rfl ⟨wb, rfl, ?_⟩
  refine (HF.out.2.2.set (b := w.heap.size + 1) (by omega) hz0 HF.out.2.1 ?_).low (by omega)
  repeat refine frm_more ?_ _ _
  exact Frm.refl _ _
def TakP (xs : List ByteArray) (mr : Nat) (R : Nat -> Prop) (db : Nat) (Q O : Nat -> Prop) (D : Dk) (t : Tk) (wb : Nat) (w w' : World) : Prop :=
 Frm Q w w' /\ ∃ Q' tv' ls', DkAt xs mr R db Q' (takeD D t) tv' wb ls' w' /\ ∀ k, Q' k -> Q k \/ O k \/ (w.heap.size <= k /\ k < w'.heap.size)
theorem take_chain {xs : List ByteArray} {mr : Nat} {R : Nat -> Prop} {db : Nat} {Q : Nat -> Prop} {D : Dk} {tv : Value} {wb : Nat} {ls : List Rl} {w : World} (h : DkAt xs mr R db Q D tv wb ls w) (hl : D.rs.length < 30) {O : Nat -> Prop} {wkb : Nat} {met : List Nod} {t : Tk} (hT : TkNew xs mr R Q O wkb met t w) :
  Calls Tryz.prog 108 #[.pointer (some ⟨w.heap.size + 1, 0, none⟩), .int .i64 D.clock] ((w.alloc (.cells (tkL t wkb).toArray 115)).alloc (.cells (rqL (newR t) (.slice none 0 0) (.pointer (some ⟨w.heap.size, 0, none⟩))).toArray 161)) fun e w3 => e = .returned (.tuple #[]) /\ w3.cell? ⟨db, 2, none⟩ = some tv /\
   ∃ o c w5, (Builtin.append_ #[155, 155] 155 #[tv, .slice (some ⟨w3.heap.size, 0, none⟩) 1 1]).run Tryz.prog (w3.alloc (.cells #[.pointer (some ⟨w.heap.size + 1, 0, none⟩)] 158)) = .ok (.slice o (D.rs.length + 1) c) w5 /\ w5.cell? ⟨db, 2, none⟩ = some tv /\ w5.frozen? ⟨db, 2, none⟩ = false /\ (w5.setCell ⟨db, 2, none⟩ (.slice o (D.rs.length + 1) c)).cell? ⟨db, 2, none⟩ = some (.slice o (D.rs.length + 1) c) /\ Hid (TakP xs mr R db Q O D t wb w (w5.setCell ⟨db, 2, none⟩ (.slice o (D.rs.length + 1) c))) := by
 have hO := hT.wk.lt
 have hR2 := hT.rq
 have hb2 : Below w.heap.size w ((w.alloc (.cells (tkL t wkb).toArray 115)).alloc (.cells (rqL (newR t) (.slice none 0 0) (.pointer (some ⟨w.heap.size, 0, none⟩))).toArray 161)) := by repeat (first | exact Below.refl _ _ | refine Below.setCell ?_ (by first | exact Nat.le_refl _ | (simp; done) | (simp; omega)) _ | refine below_drewN ?_ _ | refine Below.drew ?_ | refine Below.alloc ?_ (by first | exact Nat.le_refl _ | (simp; done) | (simp; omega)) _)
 refine (rqLate_any hR2 D.clock).mono ?_
 rintro e w3 ⟨rfl, hf3, hz3, tp', hR3⟩
 have hs2 : w.heap.size + 2 <= w3.heap.size := by have := hR3.lt (w.heap.size + 1) (Or.inr (Or.inr rfl)); omega
 have hb3 : Below w.heap.size w w3 := hb2.trans ⟨hf3.os, hf3.tape, hf3.output, hf3.size, fun k hk => hf3.block k (Nat.lt_of_lt_of_le hk hb2.size) (by omega)⟩
 have hD3 := h.below hb3
 have hlen : ls.length <= 100000000 := by rw [h.len]; omega
 obtain ⟨v', w5, hrun, hrow, hgr, hown⟩ := app_at Tryz.underlying155 Tryz.infoReq rfl (by decide) (by decide) w3 0 tv ls.length (ls.map rlV) [.pointer (some ⟨w.heap.size + 1, 0, none⟩)] rfl (by intro u hu; simp at hu; rw [hu]; rfl) hD3.row (Nat.zero_le _) hlen
 obtain ⟨o, c, rfl⟩ := owns_form hrow
 have hdt : ∀ k, tv.ownBlock = some k -> k ≠ db := by
  intro k hk e
  obtain ⟨-, -, cur, h1⟩ := owns_lt h.row k hk
  rw [e, h.blk] at h1
  injection h1 with h1
  injection h1 with _ h1
  revert h1; decide
 have hdb5 : w5.heap[db]? = w3.heap[db]? := hgr.block db (row_lt hD3.blk) fun e => hdt db e.symm rfl
 have hblk5 := hdb5.trans hD3.blk
 have hlr : ls.length + 1 = D.rs.length + 1 := by rw [h.len]
 rw [hlr] at hrun
 refine ⟨rfl, row_cell hD3.blk (j := 2) rfl, o, c, w5, hrun, row_cell hblk5 (j := 2) rfl, row_frozen hblk5 2, row_cell (row_set hblk5 2 _) (j := 2) rfl, ?_⟩
 have hf5 : Frm (fun k => k = db \/ tv.ownBlock = some k) w (w5.setCell ⟨db, 2, none⟩ (.slice o (D.rs.length + 1) c)) := by
  refine ((Frm.of_below hb3).trans (Frm.of_grown (X := fun k => tv.ownBlock = some k) hgr fun k e => e) fun j _ e => Or.inr e).trans (frm_set _ _ _ _) fun j _ e => Or.inl e
 have hz5 := setSz w5 ⟨db, 2, none⟩ (.slice o (D.rs.length + 1) c)
 have hPQ : ∀ k, (O k \/ k = w.heap.size \/ k = w.heap.size + 1) -> ¬ Q k := by
  intro k e q
  have := h.lt k q
  rcases e with e | e | e
  ·exact hT.oq k e q
  ·omega
  ·omega
 have hR6 : RqAt xs mr (w.heap.size + 1) (fun k => O k \/ k = w.heap.size \/ k = w.heap.size + 1) (lateR D.clock (newR t)) (.slice none 0 0) tp' (w5.setCell ⟨db, 2, none⟩ (.slice o (D.rs.length + 1) c)) := by
  refine hR3.keep (by rw [hz5]; exact hgr.size) (fun k hk => ?_) (h.ru.frm hf5 fun k hk e => ?_).now
  ·have hkq := hPQ k hk
   have h1 : (w5.setCell ⟨db, 2, none⟩ (.slice o (D.rs.length + 1) c)).heap[k]? = w5.heap[k]? := Below.heap_setCell _ _ _ _ (fun e => hkq (e ▸ h.dQ))
   exact h1.trans (hgr.block k (hR3.lt k hk) fun e => hkq (h.tQ k e.symm))
  ·rcases e with e | e
   ·exact h.rq k hk (e ▸ h.dQ)
   ·exact h.rq k hk (h.tQ k e)
 have key := h.take (w' := w5.setCell ⟨db, 2, none⟩ (.slice o (D.rs.length + 1) c)) (O := O) (fun k e => ⟨hO k e, hT.oq k e, fun r => hT.ro k r e⟩) (P := fun k => O k \/ k = w.heap.size \/ k = w.heap.size + 1) (fun k e => by
  rcases e with e | e | e
  ·exact Or.inl e
  ·exact Or.inr (by omega)
  ·exact Or.inr (by omega)) hR6 hl hf5 (row_set hblk5 2 _) (by
   rw [← hlr]
   exact owns_to hrow fun g hg => Below.heap_setCell _ _ _ _ (by
    intro e
    obtain ⟨-, -, cur, h1⟩ := owns_lt hrow g hg
    have e : g = db := e
    rw [e, hblk5] at h1
    injection h1 with h1
    injection h1 with _ h1
    revert h1; decide)) (fun k hk => by
   rcases hown k (by rw [hlr]; exact hk) with e | e
   ·exact Or.inl e
   ·refine Or.inr ⟨by omega, fun p => ?_⟩
    have := hR3.lt k p
    omega)
 exact ⟨hf5.mono fun k _ e => by
  rcases e with e | e
  ·rw [e]; exact h.dQ
  ·exact h.tQ k e, _, _, _, key, fun k e => e⟩
theorem dkTake_any {xs : List ByteArray} {mr : Nat} {R : Nat -> Prop} {db : Nat} {Q : Nat -> Prop} {D : Dk} {tv : Value} {wb : Nat} {ls : List Rl} {w : World} (h : DkAt xs mr R db Q D tv wb ls w) (hl : D.rs.length < 30) {O : Nat -> Prop} {wkb : Nat} {met : List Nod} {t : Tk} (hT : TkNew xs mr R Q O wkb met t w) :
  Calls Tryz.prog 59 #[.pointer (some ⟨db, 0, none⟩), .agg #[.string t.x.k, .string t.x.n, .string t.x.r, .string t.y.k, .string t.y.n, .string t.y.r, .pointer (some ⟨wkb, 0, none⟩), .int .i64 t.bud, .int .i64 t.til]] w fun e w' => e = .returned (.int .i64 ((D.rs.length + 1 : Nat) : Int)) /\ TakP xs mr R db Q O D t wb w w' := by
 have HC : Hid _ := take_chain h hl hT
 have d1 := row_cell h.blk (j := 1) rfl
 have hlt := row_lt h.blk
 have d1a := fun o => row_cell (alloc_row h.blk o) (j := 1) rfl
 have d1b := fun o o' => row_cell (alloc_row (alloc_row h.blk o) o') (j := 1) rfl
 obtain ⟨tx, tc, htv⟩ := owns_form h.row
 have hlen := h.len
 rw [htv, hlen] at HC
 generalize TakP xs mr R db Q O D t wb w = PP at *
 unfold tkL rqL newR at HC
 generalize t.x = x at *
 generalize t.y = y at *
 generalize t.bud = bud at *
 generalize t.til = til at *
 generalize D.clock = clock at *
 generalize D.rs.length = N at *
 clear h hT htv hlen
 go_enter Tryz.func59, Tryz.ntmps59
 go_wp2_with (first | (go_at_call 108; refine (Calls.mono HC.out) ?_; rintro e w3 ⟨rfl, k2, o, c, w5, hrun, k5, z5, k6, HP⟩) | (at_builtin; refine wpList_app_run rfl (.tmp 19) (.tmp 21) 155 rfl _ _ _ rfl rfl hrun ?_))
 go_ret
 exact ⟨rfl, HP.out⟩
end Go.Proofs.YtalmoiogbdahcaaGreat
