import Derived.Test.YtalmoiogbdahcaaGreatXLawQ

/- A list that came out, taken. -/
namespace Go.Proofs.YtalmoiogbdahcaaGreat
open Go.RowKit

theorem law_takes {W w0 w : World} {wb : Nat} {V : Int} {L : List PS} {pv l1 l3 : Value} {us ws : List Value} {i : Nat} {p : PS} (h0 : LSt W w0 wb V L pv l1 l3 us ws) (hi : L[i]? = some p) (c : Calm (turns p) w0 w) (hbW : Below W.heap.size W w) (hpg : PgAt w p.gb p.g) (hrg : RgAt w p.rb p.r) {v : Value} {now : List ByteArray} (hv : w.ownsRow w0.heap.size 9 1 v now.length (strV now)) (hnl : now.length ≤ 50)
    (h1 : (us.length + 1) * 24 ≤ 140737488355328) (h3 : (ws.length + 3) * 24 ≤ 140737488355328) (hm : us.length ≤ 140737488355328) :
    Calls Tryz.prog 78 #[.pointer (some ⟨wb, 0, none⟩), v] w fun e w' => e = .returned (.tuple #[]) ∧ ∃ l1' l3' ws', LSt W w' wb V L pv l1' l3' (us ++ [v]) ws' := by
  have hwb : wb < w0.heap.size := row_lt h0.lw
  have hws : w0.heap.size ≤ w.heap.size := c.sk.size
  have hlw : LwAt w wb pv l1 l3 := by unfold LwAt; rw [c.own wb _ _ h0.lw (by decide)]; exact h0.lw
  have hop : w.ownsRow (wb + 1) 66 1 pv L.length (L.map fun p => Value.pointer (some ⟨p.pb, 0, none⟩)) := owns_sl_sk h0.op fun k cur hk => c.own k cur _ hk (by decide)
  have ho1 : w.ownsRow (wb + 1) 28 1 l1 us.length us := owns_sl_sk h0.o1 fun k cur hk => c.own k cur _ hk (by decide)
  have ho3 : w.ownsRow (wb + 1) 28 1 l3 ws.length ws := owns_sl_sk h0.o3 fun k cur hk => c.own k cur _ hk (by decide)
  have hrow : ∀ k, rowOf v = some k → w0.heap.size ≤ k ∧ ∃ cur : Array Value, w.heap[k]? = some (.cells cur 9 (0, 0)) := by
    intro k hk
    rcases hv.2 with ⟨rfl, -⟩ | ⟨g, cap, cur, rfl, a, b, -⟩
    · cases hk
    · have hk' : (if now.length = 0 ∧ cap = 0 then none else some g) = some k := hk
      split at hk'
      · cases hk'
      · injection hk' with hk'; subst hk'; exact ⟨a, cur, b⟩
  have key : Calls Tryz.prog 78 #[.pointer (some ⟨wb, 0, none⟩), v] w fun e w' => e = .returned (.tuple #[]) ∧ TPost w wb (wb + 1) pv l1 l3 v us.length ws.length us ws (strokesS us.length) w' := by
    have none : (v = .slice none 0 0 ∨ ∃ bb off, v = .slice (some ⟨bb, off, none⟩) 0 0) → Calls Tryz.prog 78 #[.pointer (some ⟨wb, 0, none⟩), v] w fun e w' => e = .returned (.tuple #[]) ∧ TPost w wb (wb + 1) pv l1 l3 v us.length ws.length us ws (strokesS us.length) w' := fun h =>
      takes_none wb (wb + 1) pv l1 l3 v us ws w h ⟨hlw, ho1, ho3, Or.inl h, h0.sep, Nat.lt_succ_self _, by omega⟩ h1 h3 hm
    rcases hv.2 with ⟨rfl, -⟩ | ⟨g, cap, cur, rfl, a, b, d, e, f, -⟩
    · exact none (Or.inl rfl)
    · by_cases hz : now.length = 0 ∧ cap = 0
      · refine none (Or.inr ⟨g, 0, ?_⟩)
        rw [hz.1, hz.2]
      · exact takes_row wb (wb + 1) pv l1 l3 g now.length cap cur.toList us ws w hlw ho1 ho3 h0.sep (Nat.lt_succ_self _) (by omega) (by unfold StrRow; rw [Array.toArray_toList]; exact b) (by rw [Array.length_toList]; omega) d (by omega) hz h1 h3 hm
  refine key.mono ?_
  rintro e w' ⟨rfl, l1', l3', v1, v2, v3, hs, f1, f2, f3, hsz, eo, et, eu, hf⟩
  refine ⟨rfl, l1', l3', ws ++ [v1] ++ [v2] ++ [v3], ?_⟩
  -- what stays
  have keep : ∀ (k : Nat) (o : Obj), w.heap[k]? = some o → notMut o → (k < w0.heap.size ∨ ∀ cur : Array Value, o ≠ .cells cur 9 (0, 0)) → w'.heap[k]? = some o := by
    intro k o hk hn hd
    rw [hf k (row_lt hk) ?_ ?_ ?_ ?_]
    · exact hk
    · intro e; subst e; rw [hlw] at hk; injection hk with hk; subst hk; exact absurd hn (by show ¬ mutT 61 = false; decide)
    · intro e
      obtain ⟨a, cur, b⟩ := hrow k e
      rcases hd with hd | hd
      · omega
      · rw [hk] at b; injection b with b; exact hd cur b
    · intro e
      obtain ⟨-, -, cur, b⟩ := owns_lt ho1 k e
      rw [hk] at b; injection b with b; subst b; exact absurd hn (by show ¬ mutT 28 = false; decide)
    · intro e
      obtain ⟨-, -, cur, b⟩ := owns_lt ho3 k e
      rw [hk] at b; injection b with b; subst b; exact absurd hn (by show ¬ mutT 28 = false; decide)
  have sk : SK (turns p) w0 w' := ⟨Nat.le_trans hws hsz, fun k o hk a b => keep k o (c.sk.block k o hk a b) a (Or.inl (row_lt hk))⟩
  have hpp := h0.pairs p (List.mem_iff_getElem?.2 ⟨i, hi⟩)
  have hn1 : us.length + 1 = (us ++ [v]).length := by simp
  have hn3 : ws.length + 1 + 1 + 1 = (ws ++ [v1] ++ [v2] ++ [v3]).length := by simp
  refine ⟨hs.lw, ?_, ?_, ?_, hs.sep, ?_, h0.gnd, h0.rnd, ?_, ?_, ?_, ?_, h0.wbB⟩
  · refine owns_to hop fun k hk => ?_
    obtain ⟨a, a2, cur, b⟩ := owns_lt hop k hk
    refine hf k a (by omega) ?_ ?_ ?_
    · intro e
      obtain ⟨-, cur2, d⟩ := hrow k e
      rw [b] at d; injection d with d; injection d with _ d; revert d; decide
    · intro e
      obtain ⟨-, -, cur2, d⟩ := owns_lt ho1 k e
      rw [b] at d; injection d with d; injection d with _ d; revert d; decide
    · intro e
      obtain ⟨-, -, cur2, d⟩ := owns_lt ho3 k e
      rw [b] at d; injection d with d; injection d with _ d; revert d; decide
  · rw [← hn1]; exact hs.o1
  · rw [← hn3]; exact hs.o3
  · intro q hq
    obtain ⟨j, hj⟩ := List.mem_iff_getElem?.1 hq
    by_cases e : j = i
    · subst e
      rw [hi] at hj; injection hj with hj; subst hj
      exact hpp.turn sk p.g p.r p.now (keep _ _ hpg (by show mutT 99 = false; decide) (Or.inr (by intro cur e; injection e with _ e; revert e; decide))) (keep _ _ hrg (by show mutT 124 = false; decide) (Or.inr (by intro cur e; injection e with _ e; revert e; decide))) rfl rfl (sk.strT hpp.tv) (sk.strT hpp.nv) hpp.sorted hpp.nl hpp.tup hpp.lk hpp.cl hpp.rcl hpp.ver hpp.ver0 hpp.verV
    · have hqj := h0.pairs q hq
      refine hqj.keep sk ?_ ?_
      · rintro (a | a)
        · exact nodup_ne h0.gnd hj hi e a
        · exact gate_ne hqj hpp a
      · rintro (a | a)
        · exact gate_ne hpp hqj a.symm
        · exact nodup_ne h0.rnd hj hi e a
  · rw [← hn1, ← hn3, h0.three]; omega
  · intro k u hu
    rcases Nat.lt_or_ge k us.length with hk | hk
    · rw [List.getElem?_append_left hk] at hu
      exact sk.lfull (h0.full1 k u hu)
    · have hk2 : k < (us ++ [v]).length := (List.getElem?_eq_some_iff.1 hu).1
      have e : k = us.length := by rw [← hn1] at hk2; omega
      subst e
      simp at hu
      subst hu
      exact hs.lf
  · intro k j u hk hj hu
    rw [← hn1] at hk
    have h3' := h0.three
    rcases Nat.lt_or_ge k us.length with hk' | hk'
    · rw [List.append_assoc, List.append_assoc, List.getElem?_append_left (by omega)] at hu
      exact sk.fullB (h0.full3 k j u hk' hj hu)
    · have e : k = us.length := by omega
      subst e
      rw [← h3', List.append_assoc, List.append_assoc, List.getElem?_append_right (by omega)] at hu
      rw [Nat.add_sub_cancel_left] at hu
      match j, hj, hu with
      | 0, _, hu => simp at hu; subst hu; exact f1
      | 1, _, hu => simp at hu; subst hu; exact f2
      | 2, _, hu => simp at hu; subst hu; exact f3
  · refine ⟨eo.trans hbW.os, et.trans hbW.tape, eu.trans hbW.output, Nat.le_trans hbW.size hsz, fun k hk => ?_⟩
    have hb0 := h0.below.size
    have hwB := h0.wbB
    rw [hf k (by omega) (by omega) ?_ ?_ ?_]
    · exact hbW.block k hk
    · intro e; have := (hrow k e).1; omega
    · intro e; have := (owns_lt ho1 k e).2.1; omega
    · intro e; have := (owns_lt ho3 k e).2.1; omega

end Go.Proofs.YtalmoiogbdahcaaGreat

/- A step of a script: Tuples, walked. -/
namespace Go.Proofs.YtalmoiogbdahcaaGreat
open Go.RowKit

/-- Tuples, same, takes, one behind the other. -/
theorem step_chain {W w : World} {wb : Nat} {V : Int} {L : List PS} {pv l1 l3 : Value} {us ws : List Value} (hS : LSt W w wb V L pv l1 l3 us ws) {i : Nat} {p : PS} (hi : L[i]? = some p) (h1 : (us.length + 1) * 24 ≤ 140737488355328) (h3 : (3 * us.length + 3) * 24 ≤ 140737488355328) (hm : us.length ≤ 140737488355328) :
    Calls Tryz.prog 23 #[.pointer (some ⟨p.gb, 0, none⟩)] w fun e w2 => ∃ vx vn vc, e = .returned (.slice vx vn vc) ∧ w2.cell? ⟨p.pb, 1, none⟩ = some (.pointer (some ⟨p.rb, 0, none⟩)) ∧ w2.cell? ⟨p.rb, 1, none⟩ = some p.r.nowV ∧
      ∀ w2', Below w2.heap.size w2 w2' → Calls Tryz.prog 77 #[.slice vx vn vc, p.r.nowV] w2' fun e w3 => e = .returned (.bool true) ∧
        ∀ w3', Below w3.heap.size w3 w3' → Calls Tryz.prog 78 #[.pointer (some ⟨wb, 0, none⟩), .slice vx vn vc] w3' fun e w4 => e = .returned (.tuple #[]) ∧ StepPost W wb V L us (.returned (.bool true)) w4 := by
  have hp := hS.pairs p (List.mem_iff_getElem?.2 ⟨i, hi⟩)
  have hgw : p.gb < w.heap.size := row_lt hp.pg
  refine (tuples_any p.gb p.g p.now w hp.pg hp.lk hp.tv.strs hp.nl (strT_ne hp.tv hp.pg (by decide))).mono ?_
  rintro e w2 ⟨v, rfl, hv, hpg2, hk2⟩
  obtain ⟨vx, vc, rfl⟩ := owns_form hv
  have c2 : Calm (turns p) w w2 := Calm.gate hk2 (cs := p.g.cells) hp.pg (by decide) (Or.inl rfl)
  have hrg2 : RgAt w2 p.rb p.r := by unfold RgAt; rw [hk2.block _ (row_lt hp.rg) (by intro e; injection e with e; exact hp.ne e.symm)]; exact hp.rg
  have hb2 : Below W.heap.size W w2 := hS.below.grown hk2 hS.below.size (fun j hj => by injection hj with hj; rw [← hj]; exact hp.gB)
  refine ⟨vx, p.now.length, vc, rfl, wr_c hp c2, row_cell hrg2 (j := 1) rfl, ?_⟩
  intro w2' hb
  have hml : p.now.length ≤ maxLen := Nat.le_trans hp.nl (by unfold maxLen; omega)
  refine (same_any _ _ p.now p.now w2' (owns_strs (owns_below hv hb)) ((c2.trans (Calm.below hb)).sk.strT hp.nv).strs hml hml).mono ?_
  rintro e w3 ⟨rfl, hd⟩
  refine ⟨by simp [sameL], ?_⟩
  intro w3' hb3
  have hb23 : Below w2.heap.size w2 w3' := (hb.trans ((below_draw hd).mono hb.size)).trans (hb3.mono (Nat.le_trans hb.size (below_draw hd).size))
  have c3 := c2.trans (Calm.below hb23)
  refine (law_takes hS hi c3 (hb2.trans (hb23.mono hb2.size)) (pg_below hpg2 hb23) (rg_below hrg2 hb23) (owns_below hv hb23) hp.nl h1 (by rw [hS.three]; exact h3) hm).mono ?_
  rintro e w4 ⟨rfl, l1', l3', ws', h4⟩
  exact ⟨rfl, rfl, L, pv, l1', l3', _, ws', h4.more (by omega), Nat.le_refl _, Nat.le_succ _, by simp⟩

set_option maxRecDepth 100000 in
set_option maxHeartbeats 4000000 in
theorem step_tuples {W w : World} {wb : Nat} {V : Int} {L : List PS} {pv l1 l3 : Value} {us ws : List Value} (hS : LSt W w wb V L pv l1 l3 us ws) (hn0 : 0 < L.length) (hn : L.length ≤ 8796093022208) (g n m : Int) (hg : -9223372036854775808 ≤ g ∧ g ≤ 9223372036854775807) (s : ByteArray) (tv : Value) (h1 : (us.length + 1) * 24 ≤ 140737488355328) (h3 : (3 * us.length + 3) * 24 ≤ 140737488355328) (hm : us.length ≤ 140737488355328) :
    Calls Tryz.prog 36 #[.pointer (some ⟨wb, 0, none⟩), opV 3 g n m s tv, .int .i64 3] w (StepPost W wb V L us) := by
  have hb : Below w.heap.size w (w.alloc (opO 3 g n m s tv)).drew := ((Below.refl _ _).alloc (Nat.le_refl _) _).drew
  obtain ⟨i, p, pg, pc, hil, hi, rfl, hc0, hci, hpk⟩ := step_pick (hS.later hb) hn0 hn g hg
  have HT : Hid (Calls Tryz.prog 23 #[.pointer (some ⟨p.gb, 0, none⟩)] (w.alloc (opO 3 g n m s tv)).drew _) := step_chain (hS.later hb) hi h1 h3 hm
  have hp0 := row_cell ((hS.later hb).pairs p (List.mem_iff_getElem?.2 ⟨i, hi⟩)).pair (j := 0) rfl
  have HPK : Hid (∀ w1, Calls Tryz.prog 75 #[.int .i64 g, .int .i64 L.length] w1 fun e w' => e = .returned (.int .i64 i) ∧ w' = w1) := hpk
  clear hS hb hi hpk h1 h3 hm
  have hc0' : (w.alloc (opO 3 g n m s tv)).cell? ⟨wb, 0, none⟩ = _ := hc0
  have hci' : (w.alloc (opO 3 g n m s tv)).cell? ⟨pg, i, none⟩ = _ := hci
  have hp0' : (w.alloc (opO 3 g n m s tv)).cell? ⟨p.pb, 0, none⟩ = _ := hp0
  unfold opO at hc0 hci hc0' hci' hp0 hp0'
  unfold opV
  go_enter Tryz.func36, Tryz.ntmps36
  go_wp2
  go_region_with (go_at_call 75; refine (HPK.out _).mono ?_; rintro e w' ⟨rfl, rfl⟩)
  all_goals go_wp2_with (first | (go_at_call 23; refine HT.out.mono ?_; rintro e w2 ⟨vx, vn, vc, rfl, hq1, hq2, hq3⟩; have HQ3 : Hid (∀ w2', Below w2.heap.size w2 w2' → Calls Tryz.prog 77 #[.slice vx vn vc, p.r.nowV] w2' _) := hq3; clear hq3) | (go_at_call 77; refine (HQ3.out _ (by repeat (first | exact Below.refl _ _ | refine Below.setCell ?_ (by first | exact Nat.le_refl _ | simp) _ | refine below_drewN ?_ _ | refine Below.drew ?_ | refine Below.alloc ?_ (by first | exact Nat.le_refl _ | simp) _))).mono ?_; rintro e w3 ⟨rfl, hq4⟩; have HQ4 : Hid (∀ w3', Below w3.heap.size w3 w3' → Calls Tryz.prog 78 #[.pointer (some ⟨wb, 0, none⟩), .slice vx vn vc] w3' _) := hq4; clear hq4) | (go_at_call 78; refine (HQ4.out _ (by repeat (first | exact Below.refl _ _ | refine Below.setCell ?_ (by first | exact Nat.le_refl _ | simp) _ | refine below_drewN ?_ _ | refine Below.drew ?_ | refine Below.alloc ?_ (by first | exact Nat.le_refl _ | simp) _))).mono ?_; rintro e w4 ⟨rfl, hq5⟩; have HP : Hid (StepPost W wb V L us (.returned (.bool true)) w4) := hq5; clear hq5))
  all_goals (go_ret; exact HP.out)

end Go.Proofs.YtalmoiogbdahcaaGreat
