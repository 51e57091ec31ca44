import Derived.Test.YtalmoiogbdahcaaGreatYTieC0
namespace Go.Proofs.YtalmoiogbdahcaaGreat
set_option maxRecDepth 100000
set_option maxHeartbeats 8000000
open Go.RowKit
theorem tiesNode_any : NodeC := by
 intro U w lo tb L S f who h x hok hr hl hlo
 have hbl : tb < w.heap.size := row_lt h.blk
 have c1 := row_cell h.blk (j := 1) rfl
 have c2 := row_cell h.blk (j := 2) rfl
 have c1a := fun o => row_cell (alloc_row h.blk o) (j := 1) rfl
 have c2a := fun o => row_cell (alloc_row h.blk o) (j := 2) rfl
 have HB1 : Hid (∀ w1, Below w.heap.size w w1 -> ∀ (j : Nat) (v : Value), (tieL L)[j]? = some v -> w1.cell? ⟨tb, j, none⟩ = some v) := fun w1 hb j v hj => (h.below hb).cellN rfl hj
 have H1 : Hid (∀ w1, Below w.heap.size w w1 -> Calls Tryz.prog 136 #[.pointer (some ⟨L.nt, 0, none⟩), .agg #[.string x.k, .string x.n, .string noneB]] w1 (NodeP1 U lo tb f who L S x w1)) :=
  fun w1 hb => node_c1 (h.below hb) x hok hl (Nat.le_trans hlo hb.size)
 have H2 : Hid (∀ w1 w2 L2 S2, Below w.heap.size w w1 -> NStep 1 U lo tb f who L S w1 L2 S2 w2 -> x.th ∈ S2.ths -> L2.nr = L.nr -> ∀ w3, Below w2.heap.size w2 w3 -> Calls Tryz.prog 138 #[.pointer (some ⟨L.nr, 0, none⟩), .string x.r] w3 fun e w4 => ∃ (j : Nat) (L' : TL) (S' : TS), e = .returned (.int .i64 j) /\ Value.complex .f64 (fb (ixOf S2.ths x.th)) (fb j) = cxN S' x /\ Kn S' x /\ NStep 1 U lo tb f who L S w L' S' w4) := by
  intro w1 w2 L2 S2 hb hs hx hn w3 hb3
  have := node_c2 (hs.at'.below hb3) x hx hr (Nat.le_trans hlo (Nat.le_trans hb.size (Nat.le_trans hs.fr.size hb3.size)))
  rw [hn] at this
  refine this.mono ?_
  rintro e w4 ⟨j, L', S', he, hc, hk, hs4⟩
  refine ⟨j, L', S', he, hc, hk, ?_⟩
  have a1 := (RStep.below h hb).toN
  have a2 := a1.trans hs
  have a3 := a2.trans (RStep.below hs.at' hb3).toN
  exact a3.trans hs4
 have HN : Hid (∀ w1 w2 L2 S2, Below w.heap.size w w1 -> NStep 1 U lo tb f who L S w1 L2 S2 w2 -> ∀ k, w.heap.size <= k -> k < w1.heap.size -> w2.heap[k]? = w1.heap[k]?) := fun w1 w2 L2 S2 hb hs k hk hlt => NStep.new h hs hk hlt
 have HC : Hid (∀ w1 w2 L2 S2, NStep 1 U lo tb f who L S w1 L2 S2 w2 -> ∀ (j : Nat) (v : Value), (tieL L)[j]? = some v -> w2.cell? ⟨tb, j, none⟩ = some v) := fun w1 w2 L2 S2 hs j v hj => hs.at'.cellN hs.tie hj
 clear h
 go_enter Tryz.func86, Tryz.ntmps86
 go_wp2
 go_region_with (first
  | (go_at_call 137; refine (thingOf_any _ _ _ _).mono ?_; rintro e w1 ⟨rfl, hb1⟩; have hbb : Below w.heap.size w w1 := Below.trans (by repeat (first | exact Below.refl _ _ | refine Below.setCell ?_ (by first | exact Nat.le_refl _ | (simp; done) | (simp; omega)) _ | refine below_drewN ?_ _ | refine Below.drew ?_ | refine Below.alloc ?_ (by first | exact Nat.le_refl _ | (simp; done) | (simp; omega)) _)) (hb1.mono (by simp <;> omega)); have e1 := HB1.out w1 hbb 1 _ rfl; have e2 := HB1.out w1 hbb 2 _ rfl; have hbx : w1.heap[w.heap.size]? = some (.cells [.string x.k, .string x.n, .string x.r].toArray 75 (0, 0)) := (hb1.block w.heap.size (by simp)).trans (alloc_new w [.string x.k, .string x.n, .string x.r] _); have b2 := row_cell hbx (j := 2) rfl)
  | (go_at_call 136; refine (H1.out _ (by first | exact hbb | exact below_drewN hbb _ | exact hbb.drew)).mono ?_; rintro e w2 ⟨i, L2, S2, rfl, hi, hm, hn, hs⟩; subst hi; have d2 := HC.out _ _ _ _ hs 2 _ rfl; have hbx2 := (HN.out _ _ _ _ (by first | exact hbb | exact below_drewN hbb _ | exact hbb.drew) hs w.heap.size (Nat.le_refl _) (row_lt hbx)).trans hbx; have b22 := row_cell hbx2 (j := 2) rfl)
  | (go_at_call 138; refine (H2.out _ _ _ _ (by first | exact hbb | exact below_drewN hbb _ | exact hbb.drew) hs hm hn _ (by repeat (first | exact Below.refl _ _ | refine Below.setCell ?_ (by first | exact Nat.le_refl _ | (simp; done) | (simp; omega)) _ | refine below_drewN ?_ _ | refine Below.drew ?_ | refine Below.alloc ?_ (by first | exact Nat.le_refl _ | (simp; done) | (simp; omega)) _))).mono ?_; rintro e w4 ⟨j, L4, S4, rfl, hc4, hk4, hs4⟩))
 all_goals go_wp2
 all_goals go_ret
 all_goals exact ⟨L4, S4, congrArg Ending.returned hc4, hk4, hs4⟩
end Go.Proofs.YtalmoiogbdahcaaGreat
