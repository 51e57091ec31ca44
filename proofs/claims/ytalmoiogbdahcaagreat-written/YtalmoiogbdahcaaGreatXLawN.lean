import Derived.Test.YtalmoiogbdahcaaGreatXLawK

/- The statements' own Open: the walk. -/
namespace Go.Proofs.YtalmoiogbdahcaaGreat
open Go.RowKit

theorem row_below {w w' : World} {g : Nat} {xs : List ByteArray} (h : RowAt w g xs) (hb : Below w.heap.size w w') : RowAt w' g xs := by
  unfold RowAt at h ⊢; rw [hb.block g (row_lt h)]; exact h
theorem strs_row {w : World} {g : Nat} {xs ys : List ByteArray} {c : Nat} (h : RowAt w g (xs ++ ys)) : StrsAt w (.slice (some ⟨g, 0, none⟩) xs.length c) xs := by
  refine Or.inr ⟨g, 0, c, rfl, fun i x hx => ?_⟩
  rw [Nat.zero_add]
  refine row_cell h (strV_get ?_)
  rw [List.getElem?_append_left (List.getElem?_eq_some_iff.1 hx).1]; exact hx
/-- behind a change of one row of texts. -/
theorem PGood.kept {xs : List ByteArray} {w w2 w3 : World} {b h : Nat} {ys : List ByteArray} (p : PGood xs w w2 b) (hr : RowAt w2 h ys) (hk : w2.grownBy w3 (some h)) : PGood xs w w3 b := by
  obtain ⟨mb, m, dk, h1, h2, h3, h4⟩ := p
  have key : ∀ (k : Nat) (o : Obj), w2.heap[k]? = some o → (∀ cur : Array Value, o ≠ .cells cur 9 (0, 0)) → w3.heap[k]? = w2.heap[k]? := by
    intro k o ho hne
    refine hk.block k (row_lt ho) ?_
    intro e; injection e with e; subst e
    rw [hr] at ho; injection ho with ho
    exact hne _ ho.symm
  refine ⟨mb, m, dk, h1, ?_, ?_, ?_⟩
  · unfold PgAt; rw [key b _ h2 (by intro cur e; injection e with _ e; revert e; decide)]; exact h2
  · obtain ⟨es, c, h5, h6⟩ := h3
    exact ⟨es, c, by rw [key mb _ h5 (by intro cur e; cases e)]; exact h5, h6⟩
  · exact h4.move fun g cur _ hg => key g _ hg (by intro cur' e; injection e with _ e; revert e; decide)
theorem PGood.below {xs : List ByteArray} {w w2 w3 : World} {b : Nat} (p : PGood xs w w2 b) (hk : Below w2.heap.size w2 w3) : PGood xs w w3 b := by
  obtain ⟨mb, m, dk, h1, h2, h3, h4⟩ := p
  exact ⟨mb, m, dk, h1, pg_below h2 hk, h3.move (hk.block _ h3.lt), h4.move fun g cur _ hg => hk.block g (row_lt hg)⟩

def OpenPost (W : World) (wb : Nat) (V : Int) (L : List PS) (l1 l3 : Value) (us ws : List Value) (xs : List ByteArray) (wk qu : Int) (e : Ending) (w' : World) : Prop :=
  ∃ pv' L', e = .returned (.bool true) ∧ LSt W w' wb V L' pv' l1 l3 us ws ∧ ((openRes xs wk qu ≠ none ∧ L' = L) ∨ (openRes xs wk qu = none ∧ ∃ p, L' = L ++ [p] ∧ p.xs = xs ∧ p.now = [] ∧ p.g.ver = 0))
theorem OpenPost.err {W w w4 : World} {wb : Nat} {V : Int} {L : List PS} {pv l1 l3 : Value} {us ws : List Value} {xs : List ByteArray} {wk qu : Int} (h : LSt W w wb V L pv l1 l3 us ws) (c : Calm nobody w w4) (hb : Below W.heap.size W w4) (hr : openRes xs wk qu ≠ none) (e : Ending) (he : e = .returned (.bool true)) : OpenPost W wb V L l1 l3 us ws xs wk qu e w4 :=
  ⟨pv, L, he, h.calm c hb L (fun p hp => (h.pairs p hp).keep c.sk (fun e => e) (fun e => e)) rfl rfl rfl, Or.inl ⟨hr, rfl⟩⟩

/-- all that the owner's store of a pair more needs. -/
theorem open_ready {W w w1 w3 w4 : World} {wb : Nat} {V : Int} {L : List PS} {px : Option Addr} {pc : Nat} {l1 l3 : Value} {us ws : List Value} {xs : List ByteArray} {gb rb : Nat} (h : LSt W w wb V L (.slice px L.length pc) l1 l3 us ws) (hVn : 0 ≤ V ∧ L.length ≤ 8796093022208) {wk qu : Int} (hres : openRes xs wk qu = none)
    (hsk : w.heap.size ≤ w1.heap.size) (hs13 : w1.heap.size ≤ w3.heap.size) (hpg : PGood xs w1 w3 gb) (c3 : Calm nobody w w3) (hb03 : Below W.heap.size W w3) (hb4 : Below w3.heap.size w3 w4) (hrg : RGood xs w3 w4 rb) :
    w4.cell? ⟨wb, 0, none⟩ = some (.slice px L.length pc) ∧ ∃ g5 c5 w5, (Builtin.append_ #[58, 58] 58 #[.slice px L.length pc, .slice (some ⟨w4.heap.size + 1, 0, none⟩) 1 1]).run Tryz.prog ((w4.alloc (.cells #[.pointer (some ⟨gb, 0, none⟩), .pointer (some ⟨rb, 0, none⟩)] 65)).alloc (.cells #[.pointer (some ⟨w4.heap.size, 0, none⟩)] 66)) = .ok (.slice (some ⟨g5, 0, none⟩) (L.length + 1) c5) w5 ∧
      w5.cell? ⟨wb, 0, none⟩ = some (.slice px L.length pc) ∧ w5.frozen? ⟨wb, 0, none⟩ = false ∧
      OpenPost W wb V L l1 l3 us ws xs wk qu (.returned (.bool true)) (w5.setCell ⟨wb, 0, none⟩ (.slice (some ⟨g5, 0, none⟩) (L.length + 1) c5)) := by
  have hws : W.heap.size ≤ w.heap.size := h.below.size
  obtain ⟨mb, m, dk, p1, p2, p3, p4⟩ := hpg.below hb4
  obtain ⟨r, r1, r2, r3, r4, r5, r6⟩ := hrg
  obtain ⟨e1, -, e3⟩ := openRes_none hres
  have hc4 : Calm nobody w w4 := c3.trans (Calm.below hb4)
  have hbb4 : Below W.heap.size W w4 := hb03.trans (hb4.mono hb03.size)
  have hlw4 : LwAt w4 wb (.slice px L.length pc) l1 l3 := by unfold LwAt; rw [hc4.own wb _ _ h.lw (by decide)]; exact h.lw
  refine ⟨row_cell hlw4 (j := 0) rfl, ?_⟩
  obtain ⟨g5, c5, w5, a1, a2, a3, a4⟩ := h.addPair hc4 hbb4 hVn.1 hVn.2 p2 r2 p3 p4 (owns_base r3 hs13) e1 e3 r4 r5 r6 (Nat.le_trans hsk p1) (Nat.le_trans c3.sk.size r1)
  exact ⟨g5, c5, w5, a1, a2, a3, _, _, rfl, a4, Or.inr ⟨hres, _, rfl, rfl, rfl, rfl⟩⟩

set_option maxRecDepth 100000 in
set_option maxHeartbeats 4000000 in
theorem lawOpen_err {W w : World} {wb : Nat} {V : Int} {L : List PS} {pv l1 l3 : Value} {us ws : List Value} (hS : LSt W w wb V L pv l1 l3 us ws) (b off cap : Nat) (xs : List ByteArray) (wk qu : Int) (hc : ∀ i x, xs[i]? = some x → w.cell? ⟨b, off + i, none⟩ = some (.string x)) (hbw : b < w.heap.size) (hl : xs.length ≤ 8796093022208) (hsz : ∀ x ∈ xs, x.size ≤ maxLen) {k : Nat} {c : Int} (hres : openRes xs wk qu = some (k, c)) :
    Calls Tryz.prog 33 #[.pointer (some ⟨wb, 0, none⟩), .slice (some ⟨b, off, none⟩) xs.length cap, .int .i64 wk, .int .i64 qu] w (OpenPost W wb V L l1 l3 us ws xs wk qu) := by
  have HML : Hid (xs.length ≤ maxLen) := by show _ ≤ _; unfold maxLen; omega
  have HSZ : Hid (∀ x ∈ xs, x.size ≤ maxLen) := hsz
  have HLL : Hid (xs.length ≤ 8796093022208) := hl
  have HC : Hid (∀ i x, xs[i]? = some x → w.cell? ⟨b, off + i, none⟩ = some (.string x)) := hc
  have HHD : Hid (Calls Tryz.prog 68 #[.slice (some ⟨b, off, none⟩) xs.length cap] w _) := handed_any b off cap xs w hc hl
  have HS : Hid (LSt W w wb V L pv l1 l3 us ws) := hS
  have HRES : Hid (openRes xs wk qu = some (k, c)) := hres
  have HBN : Hid (b ≠ w.heap.size) := by show _ ≠ _; omega
  have hc0 : (c != 0) = true := by simpa using openRes_code hres
  have hcc : (c != c) = false := by simp
  have hkk : ((k : Int) != (k : Int)) = false := by simp
  clear hS hc hl hsz hres
  go_enter Tryz.func33, Tryz.ntmps33
  go_wp2_with (first | (go_at_call 68; refine HHD.out.mono ?_; rintro e w1 ⟨rfl, hrow1, hb1⟩; have HS1 : StrsAt w1 (.slice (some ⟨w.heap.size, 0, none⟩) xs.length (xs.length + 8)) xs := strs_row hrow1) | (go_at_call 26; refine (ghOpen_err _ xs wk qu w1 HS1 HML.out HRES.out).mono ?_; rintro e w2 ⟨rfl, hb2⟩; have hbb2 : Below w.heap.size w w2 := hb1.trans (hb2.mono hb1.size); have hrow2 : RowAt w2 w.heap.size (xs ++ List.replicate 8 markS) := row_below hrow1 hb2) | (go_at_call 69; refine (still_any b off cap w.heap.size xs w2 (fun i x hx => (hbb2.cell (cell_lt (HC.out i x hx))).trans (HC.out i x hx)) HBN.out HLL.out hrow2).mono ?_; rintro e w3 ⟨rfl, hk3⟩; have HS3 : StrsAt w3 (.slice (some ⟨b, off, none⟩) xs.length cap) xs := Or.inr ⟨b, off, cap, rfl, fun i x hx => ((kcell hk3).1 b (off + i) (cell_lt ((hbb2.cell (cell_lt (HC.out i x hx))).trans (HC.out i x hx))) HBN.out).trans ((hbb2.cell (cell_lt (HC.out i x hx))).trans (HC.out i x hx))⟩) | (go_at_call 70; refine (refOpen_err _ xs wk qu w3 HS3 HML.out HSZ.out HRES.out).mono ?_; rintro e w4 ⟨rfl, hb4⟩))
  go_ret
  have hbb4 : Below W.heap.size W w4 := (((HS.out.below.trans (hbb2.mono HS.out.below.size)).grown hk3 (Nat.le_trans HS.out.below.size hbb2.size) (fun j hj => by injection hj with hj; rw [← hj]; exact HS.out.below.size))).trans (hb4.mono (Nat.le_trans HS.out.below.size (Nat.le_trans hbb2.size hk3.size)))
  exact OpenPost.err HS.out (((Calm.below hbb2).new hk3 (Nat.le_refl _)).trans (Calm.below hb4)) hbb4 (by rw [HRES.out]; exact fun e => by cases e) _ rfl

set_option maxRecDepth 100000 in
set_option maxHeartbeats 4000000 in
theorem lawOpen_ok {W w : World} {wb : Nat} {V : Int} {L : List PS} {pv l1 l3 : Value} {us ws : List Value} (hS : LSt W w wb V L pv l1 l3 us ws) (hV : 0 ≤ V) (hn : L.length ≤ 8796093022208) (b off cap : Nat) (xs : List ByteArray) (wk qu : Int) (hc : ∀ i x, xs[i]? = some x → w.cell? ⟨b, off + i, none⟩ = some (.string x)) (hbw : b < w.heap.size) (hl : xs.length ≤ 8796093022208) (hsz : ∀ x ∈ xs, x.size ≤ maxLen) (hres : openRes xs wk qu = none) :
    Calls Tryz.prog 33 #[.pointer (some ⟨wb, 0, none⟩), .slice (some ⟨b, off, none⟩) xs.length cap, .int .i64 wk, .int .i64 qu] w (OpenPost W wb V L l1 l3 us ws xs wk qu) := by
  have HML : Hid (xs.length ≤ maxLen) := by show _ ≤ _; unfold maxLen; omega
  have HSZ : Hid (∀ x ∈ xs, x.size ≤ maxLen) := hsz
  have HLL : Hid (xs.length ≤ 8796093022208) := hl
  have HC : Hid (∀ i x, xs[i]? = some x → w.cell? ⟨b, off + i, none⟩ = some (.string x)) := hc
  have HHD : Hid (Calls Tryz.prog 68 #[.slice (some ⟨b, off, none⟩) xs.length cap] w _) := handed_any b off cap xs w hc hl
  have HS : Hid (LSt W w wb V L pv l1 l3 us ws) := hS
  have HRES : Hid (openRes xs wk qu = none) := hres
  have HBN : Hid (b ≠ w.heap.size) := by show _ ≠ _; omega
  have HVN : Hid (0 ≤ V ∧ L.length ≤ 8796093022208) := ⟨hV, hn⟩
  obtain ⟨px, pc, rfl⟩ := owns_form hS.op
  clear hS hc hl hsz hres hn hV
  go_enter Tryz.func33, Tryz.ntmps33
  go_wp2_with (first | (go_at_call 68; refine HHD.out.mono ?_; rintro e w1 ⟨rfl, hrow1, hb1⟩; have HS1 : StrsAt w1 (.slice (some ⟨w.heap.size, 0, none⟩) xs.length (xs.length + 8)) xs := strs_row hrow1) | (go_at_call 26; refine (ghOpen_ok _ xs wk qu w1 HS1 HML.out HRES.out).mono ?_; rintro e w2 ⟨gb, rfl, hb2, hpg2⟩; have hbb2 : Below w.heap.size w w2 := hb1.trans (hb2.mono hb1.size); have hrow2 : RowAt w2 w.heap.size (xs ++ List.replicate 8 markS) := row_below hrow1 hb2) | (go_at_call 69; refine (still_any b off cap w.heap.size xs w2 (fun i x hx => (hbb2.cell (cell_lt (HC.out i x hx))).trans (HC.out i x hx)) HBN.out HLL.out hrow2).mono ?_; rintro e w3 ⟨rfl, hk3⟩; have HS3 : StrsAt w3 (.slice (some ⟨b, off, none⟩) xs.length cap) xs := Or.inr ⟨b, off, cap, rfl, fun i x hx => ((kcell hk3).1 b (off + i) (cell_lt ((hbb2.cell (cell_lt (HC.out i x hx))).trans (HC.out i x hx))) HBN.out).trans ((hbb2.cell (cell_lt (HC.out i x hx))).trans (HC.out i x hx))⟩) | (go_at_call 70; refine (refOpen_ok _ xs wk qu w3 HS3 HML.out HSZ.out HRES.out).mono ?_; rintro e w4 ⟨rb, rfl, hb4, hrg4⟩; obtain ⟨hc4, g5, c5, w5, hrun, hc5, hf5, hp5⟩ := open_ready HS.out HVN.out HRES.out hb1.size (Nat.le_trans hb2.size hk3.size) (hpg2.kept hrow2 hk3) ((Calm.below hbb2).new hk3 (Nat.le_refl _)) ((HS.out.below.trans (hbb2.mono HS.out.below.size)).grown hk3 (Nat.le_trans HS.out.below.size hbb2.size) (fun j hj => by injection hj with hj; rw [← hj]; exact HS.out.below.size)) hb4 hrg4; have HP5 : Hid (OpenPost W wb V L l1 l3 us ws xs wk qu (.returned (.bool true)) (w5.setCell ⟨wb, 0, none⟩ (.slice (some ⟨g5, 0, none⟩) (L.length + 1) c5))) := hp5; clear hp5; have hc4a := fun o => (World.cell?_of_block (a := ⟨wb, 0, none⟩) (Below.heap_alloc w4 o wb (cell_lt hc4))).trans hc4; have hc4b := fun o o' => (World.cell?_of_block (a := ⟨wb, 0, none⟩) (Below.heap_alloc (w4.alloc o) o' wb (cell_lt (hc4a o)))).trans (hc4a o)) | (at_builtin; refine wpList_app_run rfl (.tmp 66) (.tmp 71) 58 rfl _ _ _ rfl rfl hrun ?_))
  go_ret
  exact HP5.out

end Go.Proofs.YtalmoiogbdahcaaGreat
