import Derived.Test.YtalmoiogbdahcaaGreatTSetA
import Derived.Test.YtalmoiogbdahcaaGreatYBackA
import Derived.Test.YtalmoiogbdahcaaGreatYTieP
namespace Go.Proofs.YtalmoiogbdahcaaGreat
set_option maxRecDepth 100000
set_option maxHeartbeats 8000000
open Go.RowKit
theorem add_any2 (HN : Hid NodeC) {U : List ByteArray} {ts : List (Nod × Nod)} {xs : List ByteArray} {lo tb : Nat} {f : Nod -> Option Value} {who : Nod -> Nat} {L : TL} {S : TS} {w0 w : World} (h : Bld U ts xs lo tb f who L S w0 w) (hl : ts.length < 50) {x y : Nod} (hx : okNd x) (hy : okNd y) (rx : x.r ∈ U) (ry : y.r ∈ U) :
  Calls Tryz.prog 134 #[.pointer (some ⟨tb, 0, none⟩), .agg #[.string x.k, .string x.n, .string x.r, .string y.k, .string y.n, .string y.r]] w fun e w' => e = .returned (.tuple #[]) /\ ∃ f' who' L' S', Bld U (ts ++ [(x, y)]) xs lo tb f' who' L' S' w0 w' /\ L'.mb = L.mb := by
 have htl := h.tl
 have HB : Hid (Bld U ts xs lo tb f who L S w0 w) := h
 have H0 : Hid (∀ w1, Below w.heap.size w w1 -> w1.heap[w.heap.size]? = some (.cells (tupL x y).toArray 146 (0, 0)) -> AdMid U ts xs lo tb f who L S w0 w x y 0 L S w1) := by
  intro w1 hb1 hbx
  have := h.ta.below hb1
  exact ⟨⟨this.t, this.s.size hb1.size, this.r, Nat.le_refl _, this.tn⟩, h.b.trans (hb1.mono h.ta.lo), rfl, rfl, TS.le.refl _, Nat.le_refl _, hbx⟩
 have HX : Hid (∀ w1, Below w.heap.size w w1 -> w1.heap[w.heap.size]? = some (.cells (tupL x y).toArray 146 (0, 0)) -> Calls Tryz.prog 86 #[.pointer (some ⟨tb, 0, none⟩), .agg #[.string x.k, .string x.n, .string x.r]] w1 fun e w' => ∃ L' S', e = .returned (cxN S' x) /\ Kn S' x /\ AdMid U ts xs lo tb f who L S w0 w x y 1 L' S' w') := by
  intro w1 hb1 hbx
  refine ((H0.out w1 hb1 hbx).next HN.out hx rx (by omega) (Below.refl _ _)).mono ?_
  rintro e w' ⟨L', S', he, k, hm, -⟩
  exact ⟨L', S', he, k, hm⟩
 have HY : Hid (∀ L1 S1 w1, AdMid U ts xs lo tb f who L S w0 w x y 1 L1 S1 w1 -> Kn S1 x -> Calls Tryz.prog 86 #[.pointer (some ⟨tb, 0, none⟩), .agg #[.string y.k, .string y.n, .string y.r]] w1 fun e w' => ∃ L' S', e = .returned (cxN S' y) /\ Kn S' y /\ Kn S' x /\ cxN S' x = cxN S1 x /\ AdMid U ts xs lo tb f who L S w0 w x y 2 L' S' w') := by
  intro L1 S1 w1 hm k1
  refine (hm.next HN.out hy ry (by omega) (Below.refl _ _)).mono ?_
  rintro e w' ⟨L', S', he, k, hm', hle⟩
  exact ⟨L', S', he, k, k1.le hle, cxN_le hle k1, hm'⟩
 have HBX := alloc_new w (tupL x y) 146
 clear h htl H0
 go_enter Tryz.func134, Tryz.ntmps134
 go_wp2
 go_cut [4, 5] from 6 to 13 (fun cx cy wx => ∃ (L2 : TL) (S2 : TS), cx = cxN S2 x /\ cy = cxN S2 y /\ Kn S2 x /\ Kn S2 y /\ AdMid U ts xs lo tb f who L S w0 w x y 2 L2 S2 wx)
 case first =>
  go_region_with (first
   | (go_at_call 86; refine (HX.out _ (by repeat (first | exact Below.refl _ _ | refine Below.setCell ?_ (by first | exact Nat.le_refl _ | (simp; done) | (simp; omega)) _ | refine below_drewN ?_ _ | refine Below.drew ?_ | refine Below.alloc ?_ (by first | exact Nat.le_refl _ | (simp; done) | (simp; omega)) _)) (by first | exact HBX | (show (World.drewN _ _).heap[w.heap.size]? = _; exact HBX) | (show (World.drew _).heap[w.heap.size]? = _; exact HBX))).mono ?_; clear HX; rintro e w1 ⟨L1, S1, rfl, k1, hm1⟩; have b3 := row_cell hm1.bx (j := 3) rfl; have b4 := row_cell hm1.bx (j := 4) rfl; have b5 := row_cell hm1.bx (j := 5) rfl; have HM1 : Hid (AdMid U ts xs lo tb f who L S w0 w x y 1 L1 S1 w1) := hm1; have HK1 : Hid (Kn S1 x) := k1; clear hm1 k1; obtain ⟨c1, hc1⟩ : ∃ c1, cxN S1 x = c1 := ⟨_, rfl⟩; have HC1 : Hid (cxN S1 x = c1) := hc1; rw [hc1]; clear hc1)
   | (go_at_call 86; refine (HY.out L1 S1 _ HM1.out HK1.out).mono ?_; clear HY; rintro e w2 ⟨L2, S2, rfl, ky, kx, hxx, hm2⟩; have HM2 : Hid (AdMid U ts xs lo tb f who L S w0 w x y 2 L2 S2 w2) := hm2; have HK2 : Hid (Kn S2 x /\ Kn S2 y) := ⟨kx, ky⟩; have HXX : Hid (cxN S2 x = cxN S1 x) := hxx; clear hm2 kx ky hxx; obtain ⟨c2, hc2⟩ : ∃ c2, cxN S2 y = c2 := ⟨_, rfl⟩; have HC2 : Hid (cxN S2 y = c2) := hc2; rw [hc2]; clear hc2))
  all_goals (go_wp2_with fail; go_meet)
  all_goals exact ⟨L2, S2, by rw [HXX.out, HC1.out], by rw [HC2.out], HK2.out.1, HK2.out.2, HM2.out⟩
 case rest =>
  obtain ⟨L2, S2, rfl, rfl, kx, ky, hm⟩ := hcut
  obtain ⟨p, q, hpq⟩ : ∃ p q, cxN S2 y = .complex .f64 p q := ⟨_, _, rfl⟩
  obtain ⟨v, st, w1, r1, ⟨vo, vn, vc, rfl⟩, v', w2, r2, ⟨vo', vn', vc', rfl⟩, w3, r3, f', t3, s3, rr3, fr3, kC⟩ := sub_next hm.ta.t hm.ta.s (by omega) hm.ta.r kx ky hpq
  have ta3 : TA U (ts ++ [(x, y)]) xs lo tb w3.heap.size f' who L2 S2 w3 := ⟨t3, s3, rr3, Nat.le_refl _, by rw [List.length_append]; simp; omega⟩
  have b3 : Below lo w0 w3 := Frm.below hm.b fr3 hm.ta.lo fun _ _ e => e
  have c4 := row_cell hm.ta.t.blk (j := 4) rfl
  have c4a := fun o => row_cell (alloc_row hm.ta.t.blk o) (j := 4) rfl
  have hth := fun w => cxThing_any (S := S2) (U := U) hm.ta.t.ok ky w
  have hbx : w3.heap[w.heap.size]? = some (.cells (tupL x y).toArray 146 (0, 0)) := (kC _ _ _ hm.bx (by decide)).trans hm.bx
  unfold goInt at r1 r3
  rw [hpq] at hth ⊢
  have HTA : Hid (TA U (ts ++ [(x, y)]) xs lo tb w3.heap.size f' who L2 S2 w3) := ta3
  have HB3 : Hid (Below lo w0 w3) := b3
  have HKY : Hid (Kn S2 y /\ cxN S2 y = .complex .f64 p q) := ⟨ky, hpq⟩
  have HTL : Hid (S2.ths.length <= S.ths.length + 2) := hm.tl
  have HUS : Hid (S2.uss = S.uss) := hm.uss
  have HLO : Hid (L2.mb = L.mb) := by show L2.mb = L.mb; rw [hm.loc]
  generalize cxN S2 x = cx at *
  clear hm kx ky hpq t3 s3 rr3 fr3 kC ta3 b3 HX HY HBX
  cases hyt : y.isTh
  ·rw [hyt] at hth
   have HF : Hid (Bld U (ts ++ [(x, y)]) xs lo tb f' who L2 S2 w0 w3) := HB.out.node hyt HTL.out HUS.out HTA.out HB3.out
   clear hyt hbx
   go_wp2_with (first | (at_builtin; refine wpList_app_run rfl (.tmp 19) (.tmp 21) 170 rfl _ _ _ rfl rfl r2 ?_) | (go_at_call 181; refine (hth _).mono ?_; rintro e w4 ⟨rfl, hw4⟩; subst w4))
   go_end0
   exact ⟨rfl, f', who, L2, S2, HF.out, HLO.out⟩
  ·rw [hyt] at hth
   have e3 := row_cell HTA.out.t.blk (j := 3) rfl
   have e5 := row_cell HTA.out.t.blk (j := 5) rfl
   have k3 := row_cell hbx (j := 3) rfl
   have k4 := row_cell hbx (j := 4) rfl
   have k5 := row_cell hbx (j := 5) rfl
   have HUC : Hid (∀ w4, Below w3.heap.size w3 w4 -> Calls Tryz.prog 136 #[.pointer (some ⟨L2.nu, 0, none⟩), .agg #[.string y.k, .string y.n, .string y.r]] w4 fun e w5 => ∃ i : Nat, i < 64 /\ e = .returned (.int .i64 i) /\ w5.cell? ⟨tb, 5, none⟩ = some (.map (some L2.mw)) /\ ∃ w6, (Instr.mapUpdate 180 (.map (some L2.mw)) (.complex .f64 p q) (.int .u64 (2 ^ i : Nat))).run Tryz.prog w5 = .ok () w6 /\ ∃ f' who' L' S', Bld U (ts ++ [(x, y)]) xs lo tb f' who' L' S' w0 w6 /\ L'.mb = L.mb) := by
    intro w4 hb4
    have ta4 : TA U (ts ++ [(x, y)]) xs lo tb w4.heap.size f' who L2 S2 w4 := by
     have := HTA.out.below hb4
     exact ⟨this.t, this.s.size hb4.size, this.r, Nat.le_refl _, this.tn⟩
    have hul := HB.out.ul
    refine (numNd_any y ta4.t.us hy ta4.lo (by rw [HUS.out]; omega)).mono ?_
    intro e w5 hp
    obtain ⟨he, su', ta5, fr5⟩ := ta4.user hyt hp
    have hix : ixOf (addN S2.uss y) y < 64 := by
     have h1 := ixOf_lt (mem_addN.2 (Or.inr rfl) : y ∈ addN S2.uss y)
     have h2 := addN_len S2.uss y
     rw [HUS.out] at h1 h2 ⊢
     omega
    obtain ⟨w6, r6, ta6, g6, z6⟩ := ta5.put (x := y) HKY.out.1 (2 ^ ixOf (addN S2.uss y) y)
    have hcx : cxN { S2 with uss := addN S2.uss y } y = .complex .f64 p q := HKY.out.2
    rw [hcx] at r6
    have b6 : Below lo w0 w6 := by
     have b5 : Below lo w0 w5 := Frm.below (HB3.out.trans (hb4.mono HTA.out.lo)) fr5 ta4.lo (fun k _ e => (ta4.t.us.lt e).2)
     exact b5.grown g6 ta5.lo (fun j hj => by rw [← Option.some.inj hj]; exact HTA.out.t.low)
    have ew : upd who y (2 ^ ixOf (addN S.uss y) y) = upd who y (2 ^ ixOf (addN S2.uss y) y) := by rw [HUS.out]
    refine ⟨_, hix, he, row_cell ta5.t.blk (j := 5) rfl, w6, r6, f', upd who y (2 ^ ixOf (addN S.uss y) y), { L2 with su := su' }, { S2 with uss := addN S2.uss y }, HB.out.thing hyt HTL.out (by show addN S2.uss y = _; rw [HUS.out]) hl ?_ b6, HLO.out⟩
    rw [ew, z6]
    exact ta6
   clear hyt hbx
   go_wp2_with (first | (at_builtin; refine wpList_app_run rfl (.tmp 19) (.tmp 21) 170 rfl _ _ _ rfl rfl r2 ?_) | (go_at_call 181; refine (hth _).mono ?_; rintro e w4 ⟨rfl, hw4⟩; subst w4))
   go_region_with (first | (go_at_call 136; refine (HUC.out _ (by repeat (first | exact Below.refl _ _ | refine Below.setCell ?_ (by first | exact Nat.le_refl _ | (simp; done) | (simp; omega)) _ | refine below_drewN ?_ _ | refine Below.drew ?_ | refine Below.alloc ?_ (by first | exact Nat.le_refl _ | (simp; done) | (simp; omega)) _))).mono ?_; rintro e w5 ⟨i, hi, rfl, d5, w6, hup, hF⟩; have HF : Hid (∃ f' who' L' S', Bld U (ts ++ [(x, y)]) xs lo tb f' who' L' S' w0 w6 /\ L'.mb = L.mb) := hF; have hon := fun w => only_any i hi w; clear hF) | (go_at_call 178; refine (hon _).mono ?_; rintro e w7 ⟨rfl, hw7⟩; subst w7; generalize 2 ^ i = pw at *))
   all_goals go_wp2
   all_goals go_end0
   all_goals exact ⟨rfl, HF.out⟩
theorem of_any2 (HN : Hid NodeC) {U : List ByteArray} (hU : UOk U) {xs now : List ByteArray} {mb : Nat} {tv : Value} {w : World} (hr : RulesN w mb xs) (hnow : StrsAt w tv now) (ht : TupsOk U now) :
  Calls Tryz.prog 84 #[.map (some mb), tv] w fun e w' => ∃ tb f who L S, e = .returned (.pointer (some ⟨tb, 0, none⟩)) /\ Bld U (tsOf now) xs w.heap.size tb f who L S w w' /\ L.mb = mb := by
 have hmm1 := fun w1 => run_makeMap (P := Tryz.prog) 179 w1
 have hmm2 := fun w1 => run_makeMap (P := Tryz.prog) 180 w1
 have HR : Hid (RulesN w mb xs) := hr
 have hc1 := cntNd_nil w
 have HC2 : Hid (∀ w1 : World, Calls Tryz.prog 133 #[.slice (some ⟨w1.heap.size, 0, none⟩) 1 1] (w1.alloc (.cells #[.string { data := #[] }] 9)) fun e w2 => ∃ nb mb sv, e = .returned (.pointer (some ⟨nb, 0, none⟩)) /\ NumSt Value.string w2 w1.heap.size nb mb sv [noneB] /\ Below w1.heap.size w1 w2) := by
  intro w1
  refine (cntSt_one noneB (by show (0 : Nat) <= _; omega) w1.heap.size 1 _ (row_cell (alloc_new w1 [Value.string noneB] 9) (j := 0) rfl)).mono ?_
  rintro e w2 ⟨nb, mb, sv, he, hn, hb⟩
  have hb1 : Below w1.heap.size w1 (w1.alloc (.cells #[.string { data := #[] }] 9)) := by repeat (first | exact Below.refl _ _ | refine Below.setCell ?_ (by first | exact Nat.le_refl _ | (simp; done) | (simp; omega)) _ | refine below_drewN ?_ _ | refine Below.drew ?_ | refine Below.alloc ?_ (by first | exact Nat.le_refl _ | (simp; done) | (simp; omega)) _)
  have hz := hb1.size
  exact ⟨nb, mb, sv, he, hn.base hz, hb1.trans (hb.mono hz)⟩
 have HC3 : Hid (∀ w1, Calls Tryz.prog 132 #[.slice none 0 0] w1 (CntPost ndV ndC NodeG 176 75 3 w1 [])) := fun w1 => cntNd_nil w1
 have HNEW : Hid (∀ (w1 w2 w3 : World) (nt mt : Nat) (st : Value) (nr mr : Nat) (sr : Value) (nu mu : Nat) (su : Value), NumNd w1 w.heap.size nt mt st [] -> Below w.heap.size w w1 -> NumSt Value.string w2 w1.heap.size nr mr sr [noneB] -> Below w1.heap.size w1 w2 -> NumNd w3 w2.heap.size nu mu su [] -> Below w2.heap.size w2 w3 ->
  Bld U [] xs w.heap.size (w3.heap.size + 1 + 1) (fun _ => none) (fun _ => 0) ⟨mb, nt, mt, st, nr, mr, sr, nu, mu, su, w3.heap.size, w3.heap.size + 1⟩ S00 w (((w3.alloc (.map #[] 0)).alloc (.map #[] 0)).alloc (.cells #[.map (some mb), .pointer (some ⟨nt, 0, none⟩), .pointer (some ⟨nr, 0, none⟩), .pointer (some ⟨nu, 0, none⟩), .map (some w3.heap.size), .map (some (w3.heap.size + 1))] 182))) :=
  fun w1 w2 w3 nt mt st nr mr sr nu mu su h1 b1 h2 b2 h3 b3 => ties_new hU HR.out h1 b1 h2 b2 h3 b3
 have HT : Hid (TupsOk U now) := ht
 have HNW : Hid (StrsAt w tv now) := hnow
 have hlen := ht.len
 obtain ⟨nn, hnn⟩ : ∃ nn, now.length = nn := ⟨_, rfl⟩
 have HNN : Hid (now.length = nn) := hnn
 have hv : ∃ o c, tv = .slice o nn c := by
  rcases hnow with ⟨rfl, rfl⟩ | ⟨b, off, cap, rfl, -⟩
  ·exact ⟨none, 0, by rw [← hnn]; rfl⟩
  ·exact ⟨_, cap, by rw [hnn]⟩
 obtain ⟨o, c, rfl⟩ := hv
 rw [hnn] at hlen
 clear hr hnow ht hnn hU
 go_enter Tryz.func84, Tryz.ntmps84
 go_wp2_with (first
  | (go_at_call 132; refine hc1.mono ?_; clear hc1; rintro e w1 ⟨nt, mt, st, rfl, hn1, hb1⟩; have HN1 : Hid (NumNd w1 w.heap.size nt mt st [] /\ Below w.heap.size w w1) := ⟨hn1, hb1⟩; clear hn1 hb1)
  | (go_at_call 133; refine (HC2.out _).mono ?_; rintro e w2 ⟨nr, mr, sr, rfl, hn2, hb2⟩; have HN2 : Hid (NumSt Value.string w2 w1.heap.size nr mr sr [noneB] /\ Below w1.heap.size w1 w2) := ⟨hn2, hb2⟩; clear hn2 hb2)
  | (go_at_call 132; refine (HC3.out _).mono ?_; rintro e w3 ⟨nu, mu, su, rfl, hn3, hb3⟩; have HB0 : Hid (Bld U [] xs w.heap.size (w3.heap.size + 1 + 1) (fun _ => none) (fun _ => 0) ⟨mb, nt, mt, st, nr, mr, sr, nu, mu, su, w3.heap.size, w3.heap.size + 1⟩ S00 w (((w3.alloc (.map #[] 0)).alloc (.map #[] 0)).alloc (.cells #[.map (some mb), .pointer (some ⟨nt, 0, none⟩), .pointer (some ⟨nr, 0, none⟩), .pointer (some ⟨nu, 0, none⟩), .map (some w3.heap.size), .map (some (w3.heap.size + 1))] 182))) := HNEW.out w1 w2 w3 nt mt st nr mr sr nu mu su HN1.out.1 HN1.out.2 HN2.out.1 HN2.out.2 hn3 hb3; clear hn3 hb3))
 go_loopw [21] (fun i wr => ∃ (k : Nat) (f : Nod -> Option Value) (who : Nod -> Nat) (L : TL) (S : TS), k <= nn /\ i = .int .i64 k /\ Bld U (tsOf (now.take k)) xs w.heap.size (w3.heap.size + 1 + 1) f who L S w wr /\ L.mb = mb) (fun i _ => nn - (intOf i).toNat)
 case atStart => exact ⟨0, _, _, _, _, Nat.zero_le _, rfl, HB0.out, rfl⟩
 case round =>
  obtain ⟨k, f, who, L, S, hk, rfl, hB, hLm⟩ := hrel
  have HLM : Hid (L.mb = mb) := hLm
  clear hLm
  have HB : Hid (Bld U (tsOf (now.take k)) xs w.heap.size (w3.heap.size + 1 + 1) f who L S w wr) := hB
  clear hB HB0
  by_cases hlt : k < nn
  ·have hkl : k < now.length := by have := HNN.out; omega
   obtain ⟨s, hs⟩ : ∃ s, now[k]? = some s := ⟨_, List.getElem?_eq_getElem hkl⟩
   have hsm := List.mem_of_getElem? hs
   obtain ⟨b, off, ho, hcell⟩ : ∃ b off, o = some ⟨b, off, none⟩ /\ wr.cell? ⟨b, off + k, none⟩ = some (.string s) := by
    rcases HNW.out with ⟨-, e⟩ | ⟨b, off, cap, e, hc⟩
    ·rw [e] at hs; simp at hs
    ·injection e with e
     refine ⟨b, off, e, ?_⟩
     have h1 := hc k s hs
     rw [← h1]; exact HB.out.b.cell (cell_lt h1)
   subst ho
   have hrt := fun w1 => readTuple_yes s w1 (HT.out.ok s hsm).2 (HT.out.ok s hsm).1
   have HAD : Hid (∀ w1, Below wr.heap.size wr w1 -> Calls Tryz.prog 134 #[.pointer (some ⟨w3.heap.size + 1 + 1, 0, none⟩), .agg #[.string (tpOf s).1.k, .string (tpOf s).1.n, .string (tpOf s).1.r, .string (tpOf s).2.k, .string (tpOf s).2.n, .string (tpOf s).2.r]] w1 fun e w' => e = .returned (.tuple #[]) /\ ∃ f' who' L' S', Bld U (tsOf (now.take (k + 1))) xs w.heap.size (w3.heap.size + 1 + 1) f' who' L' S' w w' /\ L'.mb = mb) := by
    intro w1 hb1
    have hB1 : Bld U (tsOf (now.take k)) xs w.heap.size (w3.heap.size + 1 + 1) f who L S w w1 := by
     have h0 := HB.out
     have h1 := h0.ta.below hb1
     exact ⟨⟨h1.t, h1.s.size hb1.size, h1.r, Nat.le_refl _, h1.tn⟩, h0.b.trans (hb1.mono h0.b.size), h0.us, h0.ul, h0.tl, h0.th, h0.no, h0.sm⟩
    obtain ⟨n1, n2, n3, n4⟩ := HT.out.nd s hsm
    have := add_any2 HN hB1 (by unfold tsOf; rw [List.length_map, List.length_take]; have := HNN.out; omega) n1 n2 n3 n4
    rw [tsOf_next hs, ← HLM.out]
    exact this
   clear hs hsm hkl
   generalize (tpOf s).1.k = a1 at *
   generalize (tpOf s).1.n = a2 at *
   generalize (tpOf s).1.r = a3 at *
   generalize (tpOf s).2.k = a4 at *
   generalize (tpOf s).2.n = a5 at *
   generalize (tpOf s).2.r = a6 at *
   go_wp2_with (first | (go_at_call 98; refine (hrt _).mono ?_; rintro e w4 ⟨rfl, hb4⟩) | (go_at_call 134; refine (HAD.out _ (hb4.alloc hb4.size _)).mono ?_; rintro e w5 ⟨rfl, f5, who5, L5, S5, hB5, hL5⟩; have HL5 : Hid (L5.mb = mb) := hL5; clear hL5; have HB5 : Hid (Bld U (tsOf (now.take (k + 1))) xs w.heap.size (w3.heap.size + 1 + 1) f5 who5 L5 S5 w w5) := hB5; clear hB5))
   go_roundw
   case rel => exact ⟨k + 1, f5, who5, L5, S5, by omega, by go_num, HB5.out, HL5.out⟩
   case measure => simp [intOf]; omega
  ·obtain rfl : k = nn := by omega
   have hB := HB.out
   rw [List.take_of_length_le (by have := HNN.out; omega)] at hB
   have HF : Hid (Bld U (tsOf now) xs w.heap.size (w3.heap.size + 1 + 1) f who L S w wr) := hB
   clear hB
   go_wp2
   go_ret
   exact ⟨_, f, who, L, S, rfl, HF.out, HLM.out⟩
theorem walkNew2 (HN : Hid NodeC) {U : List ByteArray} {ts : List (Nod × Nod)} {xs : List ByteArray} {lo tb : Nat} {f : Nod -> Option Value} {who : Nod -> Nat} {L : TL} {S : TS} {w : World} (h : TA U ts xs lo tb w.heap.size f who L S w) {x : Nod} (hx : okNd x) (hth : x.isTh = false) (hr : x.r ∈ U) (hl : S.ths.length < 4000) :
  Calls Tryz.prog 43 #[.pointer (some ⟨tb, 0, none⟩), .agg #[.string x.k, .string x.n, .string x.r]] w fun e w' => ∃ wb nb mb sb L' S' sv, e = .returned (.pointer (some ⟨wb, 0, none⟩)) /\ WNew U ts xs lo tb f who L S w x wb nb mb sb L' S' sv w' /\ L'.mb = L.mb := by
 have hb1 : Below w.heap.size w (w.alloc (.cells #[.string x.k, .string x.n, .string x.r] 75)) := by repeat (first | exact Below.refl _ _ | refine Below.setCell ?_ (by first | exact Nat.le_refl _ | (simp; done) | (simp; omega)) _ | refine below_drewN ?_ _ | refine Below.drew ?_ | refine Below.alloc ?_ (by first | exact Nat.le_refl _ | (simp; done) | (simp; omega)) _)
 have h1 : TA U ts xs lo tb (w.alloc (.cells #[.string x.k, .string x.n, .string x.r] 75)).heap.size f who L S (w.alloc (.cells #[.string x.k, .string x.n, .string x.r] 75)) := (h.below hb1).wide (h.below hb1).sb (Nat.le_refl _)
 have HNO : Hid (Calls Tryz.prog 86 #[.pointer (some ⟨tb, 0, none⟩), .agg #[.string x.k, .string x.n, .string x.r]] (w.alloc (.cells #[.string x.k, .string x.n, .string x.r] 75)) fun e w' => ∃ p q L' S', cxN S' x = .complex .f64 p q /\ e = .returned (.complex .f64 p q) /\ Hid (Calls Tryz.prog 85 #[.slice (some ⟨w'.heap.size, 0, none⟩) 1 1] (w'.alloc (.cells #[.complex .f64 p q] 136)) fun e4 w4 => ∃ nb mb sv, e4 = .returned (.pointer (some ⟨nb, 0, none⟩)) /\ WNew U ts xs lo tb f who L S w x w4.heap.size nb mb w'.heap.size L' S' sv (w4.alloc (.cells #[.pointer (some ⟨tb, 0, none⟩), .pointer (some ⟨nb, 0, none⟩), .int .i64 0] 139)) /\ L'.mb = L.mb)) := by
  refine (HN.out h1.t x hx hr hl h1.lo).mono ?_
  rintro e w2 ⟨L', S', he, k, r⟩
  refine ⟨_, _, L', S', rfl, he, ?_⟩
  show Calls _ _ _ _ _
  refine (cntCx_one (cxN S') x _ _ rfl (r.at'.ok.good k) w2.heap.size 1 _ (row_cell (alloc_new w2 [cxN S' x] 136) (j := 0) rfl)).mono ?_
  rintro e4 w4 ⟨nb, mb, sv, he4, hn, hb4⟩
  exact ⟨nb, mb, sv, he4, wnew_end hth (hb1.mono h.lo) h1 k r (v := [cxN S' x]) hn hb4, by rw [r.loc]⟩
 clear h h1 hb1 hx hth hr hl HN
 go_enter Tryz.func43, Tryz.ntmps43
 go_wp2_with (first | (go_at_call 86; refine HNO.out.mono ?_; rintro e w2 ⟨p, q, L', S', hpq, rfl, HCT⟩; clear hpq) | (go_at_call 85; refine HCT.out.mono ?_; rintro e w4 ⟨nb, mb, sv, rfl, hw⟩))
 go_ret
 exact ⟨_, _, _, _, _, _, _, rfl, hw⟩
end Go.Proofs.YtalmoiogbdahcaaGreat
