import Derived.Test.YtalmoiogbdahcaaGreatXLawD

/- law.World.takes: a list that came out is written full, grown, and kept. -/
namespace Go.Proofs.YtalmoiogbdahcaaGreat
open Go.RowKit

/-- what 'takes' leaves. -/
def TPost (w : World) (b base : Nat) (ps l1 l3 l : Value) (n1 n3 : Nat) (us ws : List Value) (m : ByteArray) (w' : World) : Prop :=
  ∃ l1' l3' v1 v2 v3, St w' b base ps l1' l3' l (n1 + 1) (n3 + 1 + 1 + 1) (us ++ [l]) (ws ++ [v1] ++ [v2] ++ [v3]) m ∧ FullB w' v1 m ∧ FullB w' v2 m ∧ FullB w' v3 m ∧ w.heap.size ≤ w'.heap.size ∧ w'.os = w.os ∧ w'.tape = w.tape ∧ w'.output = w.output ∧
    ∀ k, k < w.heap.size → k ≠ b → rowOf l ≠ some k → l1.ownBlock ≠ some k → l3.ownBlock ≠ some k → w'.heap[k]? = w.heap[k]?
theorem set_other (w : World) (b j : Nat) (u : Value) (k : Nat) (h : k ≠ b) : (w.setCell ⟨b, j, none⟩ u).heap[k]? = w.heap[k]? := Below.heap_setCell _ _ _ _ h
theorem set_size (w : World) (a : Addr) (u : Value) : (w.setCell a u).heap.size = w.heap.size := by simp [World.setCell]

theorem bd3 (n : Nat) (h : (n + 3) * 24 ≤ 140737488355328) : (n + 1) * 24 ≤ 140737488355328 ∧ (n + 1 + 1) * 24 ≤ 140737488355328 ∧ (n + 1 + 1 + 1) * 24 ≤ 140737488355328 :=
  ⟨Nat.le_trans (Nat.mul_le_mul_right 24 (Nat.add_le_add_left (by decide) n)) h, Nat.le_trans (Nat.mul_le_mul_right 24 (show n + 2 ≤ n + 3 from Nat.add_le_add_left (by decide) n)) h, h⟩

set_option maxHeartbeats 400000 in
/-- the seven appends, one behind the other. -/
theorem takes_tail {w : World} {b base : Nat} {ps l1 l3 l : Value} {n1 n3 : Nat} {us ws : List Value} {m : ByteArray} (s : St w b base ps l1 l3 l n1 n3 us ws m) (h1 : (n1 + 1) * 24 ≤ 140737488355328) (h3 : (n3 + 3) * 24 ≤ 140737488355328) :
    ∃ x1 y1 z1 w1 x2 y2 z2 w2 x3 y3 z3 w3 g4 c4 w4 g5 c5 w5 g6 c6 w6 g7 c7 w7,
      (Builtin.append_ #[28, 28] 28 #[l, .slice (some ⟨w.heap.size, 0, none⟩) 1 1]).run Tryz.prog (w.alloc (.cells #[.string m] 9)) = .ok (.slice (some ⟨x1, 0, none⟩) y1 z1) w1 ∧
      (Builtin.append_ #[28, 28] 28 #[l, .slice (some ⟨w1.heap.size, 0, none⟩) 2 2]).run Tryz.prog (w1.alloc (.cells #[.string m, .string m] 9)) = .ok (.slice (some ⟨x2, 0, none⟩) y2 z2) w2 ∧
      (Builtin.append_ #[28, 28] 28 #[l, .slice (some ⟨w2.heap.size, 0, none⟩) 3 3]).run Tryz.prog (w2.alloc (.cells #[.string m, .string m, .string m] 9)) = .ok (.slice (some ⟨x3, 0, none⟩) y3 z3) w3 ∧
      (Builtin.append_ #[59, 59] 59 #[l1, .slice (some ⟨w3.heap.size, 0, none⟩) 1 1]).run Tryz.prog (w3.alloc (.cells #[l] 28)) = .ok (.slice (some ⟨g4, 0, none⟩) (n1 + 1) c4) w4 ∧
      (Builtin.append_ #[59, 59] 59 #[l3, .slice (some ⟨w4.heap.size, 0, none⟩) 1 1]).run Tryz.prog ((w4.setCell ⟨b, 1, none⟩ (.slice (some ⟨g4, 0, none⟩) (n1 + 1) c4)).alloc (.cells #[.slice (some ⟨x1, 0, none⟩) y1 z1] 28)) = .ok (.slice (some ⟨g5, 0, none⟩) (n3 + 1) c5) w5 ∧
      (Builtin.append_ #[59, 59] 59 #[.slice (some ⟨g5, 0, none⟩) (n3 + 1) c5, .slice (some ⟨w5.heap.size, 0, none⟩) 1 1]).run Tryz.prog ((w5.setCell ⟨b, 2, none⟩ (.slice (some ⟨g5, 0, none⟩) (n3 + 1) c5)).alloc (.cells #[.slice (some ⟨x2, 0, none⟩) y2 z2] 28)) = .ok (.slice (some ⟨g6, 0, none⟩) (n3 + 1 + 1) c6) w6 ∧
      (Builtin.append_ #[59, 59] 59 #[.slice (some ⟨g6, 0, none⟩) (n3 + 1 + 1) c6, .slice (some ⟨w6.heap.size, 0, none⟩) 1 1]).run Tryz.prog ((w6.setCell ⟨b, 2, none⟩ (.slice (some ⟨g6, 0, none⟩) (n3 + 1 + 1) c6)).alloc (.cells #[.slice (some ⟨x3, 0, none⟩) y3 z3] 28)) = .ok (.slice (some ⟨g7, 0, none⟩) (n3 + 1 + 1 + 1) c7) w7 ∧
      LwAt w3 b ps l1 l3 ∧ LwAt w4 b ps l1 l3 ∧ LwAt w5 b ps (.slice (some ⟨g4, 0, none⟩) (n1 + 1) c4) l3 ∧ LwAt w6 b ps (.slice (some ⟨g4, 0, none⟩) (n1 + 1) c4) (.slice (some ⟨g5, 0, none⟩) (n3 + 1) c5) ∧ LwAt w7 b ps (.slice (some ⟨g4, 0, none⟩) (n1 + 1) c4) (.slice (some ⟨g6, 0, none⟩) (n3 + 1 + 1) c6) ∧
      TPost w b base ps l1 l3 l n1 n3 us ws m (w7.setCell ⟨b, 2, none⟩ (.slice (some ⟨g7, 0, none⟩) (n3 + 1 + 1 + 1) c7)) := by
  obtain ⟨e1, e2, e3⟩ := bd3 n3 h3
  obtain ⟨x1, y1, z1, w1, r1, f1, p1, s1, k1⟩ := stA s 1 (by decide) (by decide)
  obtain ⟨x2, y2, z2, w2, r2, f2, p2, s2, k2⟩ := stA s1 2 (by decide) (by decide)
  obtain ⟨x3, y3, z3, w3, r3, f3, p3, s3, k3⟩ := stA s2 3 (by decide) (by decide)
  obtain ⟨g4, c4, w4, r4, lw4, p4, s4, k4, q4⟩ := stB s3 l (lfull_one s3.lf) h1
  obtain ⟨g5, c5, w5, r5, lw5, p5, s5, k5, q5⟩ := stC s4 (.slice (some ⟨x1, 0, none⟩) y1 z1) (fullB_one f1) e1
  obtain ⟨g6, c6, w6, r6, lw6, p6, s6, k6, q6⟩ := stC s5 (.slice (some ⟨x2, 0, none⟩) y2 z2) (fullB_one f2) e2
  obtain ⟨g7, c7, w7, r7, lw7, p7, s7, k7, q7⟩ := stC s6 (.slice (some ⟨x3, 0, none⟩) y3 z3) (fullB_one f3) e3
  have d1 := k1.size
  have d2 := k2.size
  have d3 := k3.size
  have d4 := k4.size
  have d5 := k5.size
  have d6 := k6.size
  have d7 := k7.size
  rw [set_size] at d5 d6 d7 q5 q6 q7
  have r5' := r5
  have r6' := r6
  have r7' := r7
  rw [set_size] at r5' r6' r7'
  refine ⟨x1, y1, z1, w1, x2, y2, z2, w2, x3, y3, z3, w3, g4, c4, w4, g5, c5, w5, g6, c6, w6, g7, c7, w7, r1, r2, r3, r4, r5', r6', r7', s3.lw, lw4, lw5, lw6, lw7, ?_⟩
  refine ⟨_, _, _, _, _, s7, ?_, ?_, ?_, ?_, ?_, ?_, ?_, ?_⟩
  · exact (((((f1.step p2).step p3).step p4).step p5).step p6).step p7
  · exact ((((f2.step p3).step p4).step p5).step p6).step p7
  · exact (((f3.step p4).step p5).step p6).step p7
  · rw [set_size]; exact Nat.le_trans d1 (Nat.le_trans d2 (Nat.le_trans d3 (Nat.le_trans d4 (Nat.le_trans d5 (Nat.le_trans d6 d7)))))
  · exact k7.os.trans (k6.os.trans (k5.os.trans (k4.os.trans (k3.os.trans (k2.os.trans k1.os)))))
  · exact k7.tape.trans (k6.tape.trans (k5.tape.trans (k4.tape.trans (k3.tape.trans (k2.tape.trans k1.tape)))))
  · exact k7.output.trans (k6.output.trans (k5.output.trans (k4.output.trans (k3.output.trans (k2.output.trans k1.output)))))
  · clear r1 r2 r3 r4 r5 r6 r7 r5' r6' r7' s s1 s2 s3 s4 s5 s6 s7 f1 f2 f3 p1 p2 p3 p4 p5 p6 p7 lw4 lw5 lw6 lw7 e1 e2 e3 h1 h3
    intro k hk hb hl hr1 hr3
    have t1 : k < w1.heap.size := Nat.lt_of_lt_of_le hk d1
    have t2 : k < w2.heap.size := Nat.lt_of_lt_of_le t1 d2
    have t3 : k < w3.heap.size := Nat.lt_of_lt_of_le t2 d3
    have t4 : k < w4.heap.size := Nat.lt_of_lt_of_le t3 d4
    have t5 : k < w5.heap.size := Nat.lt_of_lt_of_le t4 d5
    have t6 : k < w6.heap.size := Nat.lt_of_lt_of_le t5 d6
    have g5k : g5 ≠ k := by
      rcases q5 with e | e
      · intro e2; subst e2; exact hr3 e
      · exact fun e2 => absurd (e2 ▸ e) (Nat.not_le_of_lt t4)
    have g6k : g6 ≠ k := by
      rcases q6 with e | e
      · intro e2; subst e2; exact g5k (by injection e)
      · exact fun e2 => absurd (e2 ▸ e) (Nat.not_le_of_lt t5)
    rw [set_other _ _ _ _ _ hb, k7.block k (by rw [set_size]; exact t6) (by intro e; injection e with e; exact g6k e.symm), set_other _ _ _ _ _ hb, k6.block k (by rw [set_size]; exact t5) (by intro e; injection e with e; exact g5k e.symm), set_other _ _ _ _ _ hb, k5.block k (by rw [set_size]; exact t4) (Ne.symm hr3), set_other _ _ _ _ _ hb, k4.block k t3 (Ne.symm hr1), k3.block k t2 (Ne.symm hl), k2.block k t1 (Ne.symm hl), k1.block k hk (Ne.symm hl)]

end Go.Proofs.YtalmoiogbdahcaaGreat

/- law.World.takes, walked, where the list has a row of its own. -/
namespace Go.Proofs.YtalmoiogbdahcaaGreat
open Go.RowKit

theorem row_cur {w : World} {g : Nat} {cur : List Value} (h : StrRow w g cur) {k : Nat} (hk : k < cur.length) : ∃ u, w.cell? ⟨g, k, none⟩ = some u ∧ w.frozen? ⟨g, k, none⟩ = false :=
  ⟨cur[k], row_cell h (List.getElem?_eq_getElem hk), row_frozen h k⟩

/-- the frame of the writing: the list's row alone. -/
theorem tpost_frame {w wr w' : World} {b base : Nat} {ps l1 l3 : Value} {g n cap n1 n3 : Nat} {us ws : List Value} {m : ByteArray} (hz : ¬ (n = 0 ∧ cap = 0)) (hk : w.grownBy wr (some g)) (h : TPost wr b base ps l1 l3 (.slice (some ⟨g, 0, none⟩) n cap) n1 n3 us ws m w') : TPost w b base ps l1 l3 (.slice (some ⟨g, 0, none⟩) n cap) n1 n3 us ws m w' := by
  obtain ⟨a1, a3, v1, v2, v3, s, f1, f2, f3, z, o1, o2, o3, hf⟩ := h
  refine ⟨a1, a3, v1, v2, v3, s, f1, f2, f3, Nat.le_trans hk.size z, o1.trans hk.os, o2.trans hk.tape, o3.trans hk.output, ?_⟩
  intro k hl hb hr h1 h3
  have e : rowOf (.slice (some ⟨g, 0, none⟩) n cap) = some g := by
    show (if n = 0 ∧ cap = 0 then none else some g) = some g
    rw [if_neg hz]
  rw [hf k (Nat.lt_of_lt_of_le hl hk.size) hb hr h1 h3]
  rw [e] at hr
  exact hk.block k hl (Ne.symm hr)

set_option maxRecDepth 100000 in
set_option maxHeartbeats 2000000 in
theorem takes_row (b base : Nat) (ps l1 l3 : Value) (g n cap : Nat) (cur us ws : List Value) (w : World) (hlw : LwAt w b ps l1 l3) (o1 : w.ownsRow base 28 1 l1 us.length us) (o3 : w.ownsRow base 28 1 l3 ws.length ws)
    (sep : ∀ k, l1.ownBlock = some k → l3.ownBlock ≠ some k) (hb : b < base) (hbase : base ≤ w.heap.size) (hg : StrRow w g cur) (hc : cur.length = cap) (hn : n ≤ cap) (hnb : n ≤ 549755813888) (hz : ¬ (n = 0 ∧ cap = 0))
    (h1 : (us.length + 1) * 24 ≤ 140737488355328) (h3 : (ws.length + 3) * 24 ≤ 140737488355328) (hm : us.length ≤ 140737488355328) :
    Calls Tryz.prog 78 #[.pointer (some ⟨b, 0, none⟩), .slice (some ⟨g, 0, none⟩) n cap] w fun e w' => e = .returned (.tuple #[]) ∧ TPost w b base ps l1 l3 (.slice (some ⟨g, 0, none⟩) n cap) us.length ws.length us ws (strokesS us.length) w' := by
  have hst := fun w => strokes_any us.length w hm
  have a1 : w.cell? ⟨b, 1, none⟩ = some l1 := row_cell hlw rfl
  have hl1 : (l1 = .slice none 0 0 ∧ us.length = 0) ∨ ∃ g cap, l1 = .slice (some ⟨g, 0, none⟩) us.length cap := by
    rcases o1.2 with h | ⟨g, cap, cur, hv, -⟩
    · exact Or.inl h
    · exact Or.inr ⟨g, cap, hv⟩
  have hgb : ∀ k c2, w.heap[k]? = some (.cells (c2 : List Value).toArray 28 (0, 0)) → some g ≠ some k := by
    intro k c2 hk e
    injection e with e; subst e
    have := row_type hg hk
    revert this; decide
  have HT : Hid (∀ wr cur', StrRow wr g cur' → cur'.length = cap → (∀ i, i < n → cur'[i]? = some (.string (strokesS us.length))) → w.grownBy wr (some g) → St wr b base ps l1 l3 (.slice (some ⟨g, 0, none⟩) n cap) us.length ws.length us ws (strokesS us.length)) := by
    intro wr cur' q1 q2 q3 q4
    refine ⟨lw_kept hlw q4 ?_, owns_kept o1 q4 ?_, owns_kept o3 q4 ?_, Or.inr ⟨g, n, cap, cur', rfl, q1, q2, hn, hnb, q3⟩, sep, hb, Nat.le_trans hbase q4.size⟩
    · intro e; injection e with e; subst e
      have := row_type hg hlw
      revert this; decide
    · intro k hk; obtain ⟨c2, hd⟩ := owns_type o1 hk; exact hgb k c2 hd
    · intro k hk; obtain ⟨c2, hd⟩ := owns_type o3 hk; exact hgb k c2 hd
  have HG : Hid (StrRow w g cur) := hg
  have HLW : Hid (LwAt w b ps l1 l3) := hlw
  have H13 : Hid ((us.length + 1) * 24 ≤ 140737488355328 ∧ (ws.length + 3) * 24 ≤ 140737488355328) := ⟨h1, h3⟩
  have HZ : Hid (¬ (n = 0 ∧ cap = 0)) := hz
  clear hgb o1 o3 sep hb hbase hg hlw h1 h3 hm hz
  generalize us.length = n1 at *
  generalize ws.length = n3 at *
  generalize strokesS n1 = m at *
  rcases hl1 with ⟨rfl, rfl⟩ | ⟨g1, cap1, rfl⟩
  all_goals
    go_enter Tryz.func78, Tryz.ntmps78
    go_wp2_with (go_at_call 81; refine (hst _).mono ?_; rintro e w' ⟨rfl, hw'⟩; subst w')
    go_loopw [5] (fun i wr => ∃ (k : Nat) (cur' : List Value), k ≤ n ∧ i = .int .i64 k ∧ StrRow wr g cur' ∧ cur'.length = cap ∧ (∀ i, i < k → cur'[i]? = some (.string m)) ∧ w.grownBy wr (some g)) (fun i _ => n - (intOf i).toNat)
    case atStart => exact ⟨0, cur, Nat.zero_le _, rfl, HG.out, hc, fun i hi => absurd hi (Nat.not_lt_zero _), kept_refl _ _⟩
    case round =>
      obtain ⟨k, cur', hk, rfl, hr, hcl, hfu, hkp⟩ := hrel
      by_cases hlt : k < n
      · obtain ⟨u, hu, hfz⟩ := row_cur hr (k := k) (by omega)
        have HR : Hid (StrRow (wr.setCell ⟨g, k, none⟩ (.string m)) g (cur'.set k (.string m)) ∧ (cur'.set k (.string m)).length = cap ∧ (∀ i, i < k + 1 → (cur'.set k (.string m))[i]? = some (.string m)) ∧ w.grownBy (wr.setCell ⟨g, k, none⟩ (.string m)) (some g)) := by
          refine ⟨row_set hr k _, by rw [List.length_set]; exact hcl, ?_, kept_set hkp k _⟩
          intro i hi
          by_cases e : k = i
          · subst e; rw [List.getElem?_set_self (by omega)]
          · rw [List.getElem?_set_ne e]; exact hfu i (by omega)
        clear hr hfu hkp
        go_wp2
        go_roundw
        case rel => exact ⟨k + 1, _, by omega, by go_num, HR.out.1, HR.out.2.1, HR.out.2.2.1, HR.out.2.2.2⟩
        case measure => simp [intOf]; omega
      · obtain rfl : k = n := by omega
        have hs := HT.out wr cur' hr hcl hfu hkp
        obtain ⟨x1, y1, q1, w1, x2, y2, q2, w2, x3, y3, q3, w3, g4, c4, w4, g5, c5, w5, g6, c6, w6, g7, c7, w7, r1, r2, r3, r4, r5, r6, r7, lw3, lw4, lw5, lw6, lw7, hp⟩ := takes_tail hs H13.out.1 H13.out.2
        have HP := show Hid _ from tpost_frame HZ.out hkp hp
        have a3 := row_cell lw3 (j := 1) rfl
        have a4 := row_cell lw4 (j := 1) rfl
        have b4 := row_cell lw4 (j := 2) rfl
        have a5 := row_cell lw5 (j := 2) rfl
        have a6 := row_cell lw6 (j := 2) rfl
        have a7 := row_cell lw7 (j := 2) rfl
        have z4 := row_frozen lw4 1
        have z5 := row_frozen lw5 2
        have z6 := row_frozen lw6 2
        have z7 := row_frozen lw7 2
        clear hp hs lw3 lw4 lw5 lw6 lw7 hr hfu hkp HT
        go_wp2_with (first | (at_builtin; refine wpList_app_run rfl (.tmp 25) (.tmp 27) 28 rfl _ _ _ rfl rfl r1 ?_) | (at_builtin; refine wpList_app_run rfl (.tmp 29) (.tmp 32) 28 rfl _ _ _ rfl rfl r2 ?_) | (at_builtin; refine wpList_app_run rfl (.tmp 34) (.tmp 38) 28 rfl _ _ _ rfl rfl r3 ?_) | (at_builtin; refine wpList_app_run rfl (.tmp 44) (.tmp 46) 59 rfl _ _ _ rfl rfl r4 ?_) | (at_builtin; refine wpList_app_run rfl (.tmp 54) (.tmp 56) 59 rfl _ _ _ rfl rfl r5 ?_) | (at_builtin; refine wpList_app_run rfl (.tmp 64) (.tmp 66) 59 rfl _ _ _ rfl rfl r6 ?_) | (at_builtin; refine wpList_app_run rfl (.tmp 74) (.tmp 76) 59 rfl _ _ _ rfl rfl r7 ?_))
        go_end0
        exact ⟨rfl, HP.out⟩

end Go.Proofs.YtalmoiogbdahcaaGreat

/- law.World.takes, walked. -/
namespace Go.Proofs.YtalmoiogbdahcaaGreat
open Go.RowKit

set_option maxRecDepth 100000 in
set_option maxHeartbeats 2000000 in
theorem takes_none (b base : Nat) (ps l1 l3 l : Value) (us ws : List Value) (w : World) (hl : l = .slice none 0 0 ∨ ∃ bb off, l = .slice (some ⟨bb, off, none⟩) 0 0)
    (s : St w b base ps l1 l3 l us.length ws.length us ws (strokesS us.length)) (h1 : (us.length + 1) * 24 ≤ 140737488355328) (h3 : (ws.length + 3) * 24 ≤ 140737488355328) (hm : us.length ≤ 140737488355328) :
    Calls Tryz.prog 78 #[.pointer (some ⟨b, 0, none⟩), l] w fun e w' => e = .returned (.tuple #[]) ∧ TPost w b base ps l1 l3 l us.length ws.length us ws (strokesS us.length) w' := by
  have hst := fun w => strokes_any us.length w hm
  obtain ⟨x1, y1, q1, w1, x2, y2, q2, w2, x3, y3, q3, w3, g4, c4, w4, g5, c5, w5, g6, c6, w6, g7, c7, w7, r1, r2, r3, r4, r5, r6, r7, lw3, lw4, lw5, lw6, lw7, hp⟩ := takes_tail s h1 h3
  have HP : Hid (TPost w b base ps l1 l3 l us.length ws.length us ws (strokesS us.length) (w7.setCell ⟨b, 2, none⟩ (.slice (some ⟨g7, 0, none⟩) (ws.length + 1 + 1 + 1) c7))) := hp
  clear hp h1 h3 hm
  have a1 : w.cell? ⟨b, 1, none⟩ = some l1 := row_cell s.lw rfl
  have a3 : w3.cell? ⟨b, 1, none⟩ = some l1 := row_cell lw3 rfl
  have a4 : w4.cell? ⟨b, 1, none⟩ = some l1 := row_cell lw4 rfl
  have b4 : w4.cell? ⟨b, 2, none⟩ = some l3 := row_cell lw4 rfl
  have a5 : w5.cell? ⟨b, 2, none⟩ = some l3 := row_cell lw5 rfl
  have a6 : w6.cell? ⟨b, 2, none⟩ = some (.slice (some ⟨g5, 0, none⟩) (ws.length + 1) c5) := row_cell lw6 rfl
  have a7 : w7.cell? ⟨b, 2, none⟩ = some (.slice (some ⟨g6, 0, none⟩) (ws.length + 1 + 1) c6) := row_cell lw7 rfl
  have z4 : w4.frozen? ⟨b, 1, none⟩ = false := row_frozen lw4 _
  have z5 : w5.frozen? ⟨b, 2, none⟩ = false := row_frozen lw5 _
  have z6 : w6.frozen? ⟨b, 2, none⟩ = false := row_frozen lw6 _
  have z7 : w7.frozen? ⟨b, 2, none⟩ = false := row_frozen lw7 _
  have hl1 : (l1 = .slice none 0 0 ∧ us.length = 0) ∨ ∃ g cap, l1 = .slice (some ⟨g, 0, none⟩) us.length cap := by
    rcases s.o1.2 with h | ⟨g, cap, cur, hv, -⟩
    · exact Or.inl h
    · exact Or.inr ⟨g, cap, hv⟩
  clear s lw3 lw4 lw5 lw6 lw7
  generalize us.length = n1 at *
  generalize ws.length = n3 at *
  generalize strokesS n1 = m at *
  rcases hl1 with ⟨rfl, rfl⟩ | ⟨g1, cap1, rfl⟩
  all_goals
    rcases hl with rfl | ⟨bb, off, rfl⟩
    all_goals
      go_enter Tryz.func78, Tryz.ntmps78
      go_wp2_with (go_at_call 81; refine (hst _).mono ?_; rintro e w' ⟨rfl, rfl⟩)
      refine wp_loop_rounds 1 ?_
      rw [rounds_succ]
      go_wp2_with (first | (at_builtin; refine wpList_app_run rfl (.tmp 25) (.tmp 27) 28 rfl _ _ _ rfl rfl r1 ?_) | (at_builtin; refine wpList_app_run rfl (.tmp 29) (.tmp 32) 28 rfl _ _ _ rfl rfl r2 ?_) | (at_builtin; refine wpList_app_run rfl (.tmp 34) (.tmp 38) 28 rfl _ _ _ rfl rfl r3 ?_) | (at_builtin; refine wpList_app_run rfl (.tmp 44) (.tmp 46) 59 rfl _ _ _ rfl rfl r4 ?_) | (at_builtin; refine wpList_app_run rfl (.tmp 54) (.tmp 56) 59 rfl _ _ _ rfl rfl r5 ?_) | (at_builtin; refine wpList_app_run rfl (.tmp 64) (.tmp 66) 59 rfl _ _ _ rfl rfl r6 ?_) | (at_builtin; refine wpList_app_run rfl (.tmp 74) (.tmp 76) 59 rfl _ _ _ rfl rfl r7 ?_))
      go_end0
      exact ⟨rfl, HP.out⟩

end Go.Proofs.YtalmoiogbdahcaaGreat
