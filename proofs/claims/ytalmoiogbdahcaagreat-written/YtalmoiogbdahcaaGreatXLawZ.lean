import Derived.Test.YtalmoiogbdahcaaGreatXLawK

/- Lists of nothing that are not nil: wherever they point. -/
namespace Go.Proofs.YtalmoiogbdahcaaGreat
open Go.RowKit

theorem copy_zero (a : Addr) (w : World) :
    ∃ W2, (Builtin.copy_ #[28, 28] 3 #[.slice (some ⟨w.heap.size, 0, none⟩) 8 8, .slice (some a) 0 0]).run Tryz.prog (w.alloc (.cells (madeCells #[.string { data := #[] }] 8) 9)) = .ok (goInt 0) W2 ∧
      RowAt W2 w.heap.size (List.replicate 8 emptyS) ∧ Below w.heap.size w W2 := by
  have hg : (w.alloc (.cells (madeCells #[.string { data := #[] }] 8) 9)).heap[w.heap.size]? = some (.cells (strV (List.replicate 8 emptyS)).toArray 9 (0, 0)) := by
    rw [show madeCells #[Value.string { data := #[] }] 8 = madeCells #[Value.string { data := #[] }] (0 + 8) from rfl, made_strs]
    show (w.heap.push _)[w.heap.size]? = _
    simp
  refine ⟨_, ?_, hg, (Below.refl _ _).alloc (Nat.le_refl _) _⟩
  simp [Builtin.copy_, run_underlying Tryz.underlying28, go_sem]

set_option maxRecDepth 100000 in
set_option maxHeartbeats 1000000 in
theorem handed_zero (a : Addr) (w : World) :
    Calls Tryz.prog 68 #[.slice (some a) 0 0] w fun e w' => e = .returned (.slice (some ⟨w.heap.size, 0, none⟩) 8 8) ∧ RowAt w' w.heap.size (List.replicate 8 markS) ∧ Below w.heap.size w w' := by
  have hmk := run_make_row' (P := Tryz.prog) 28 9 (.string { data := #[] }) 16 Tryz.underlying28 Tryz.infoStr rfl .i64 .i64 8 (by omega) (by omega)
  have hq := fun (w : World) (a : Option Addr) (n c n' c' : Nat) => Lib.run_eql_slice_nil (P := Tryz.prog) w 28 9 a n c n' c' Tryz.underlying28
  obtain ⟨W2, hcp, hrow, hbel⟩ := copy_zero a w
  have ec : ((8 : Nat) : Int) = (8 : Int) := rfl
  rw [ec] at hmk
  clear ec
  go_enter Tryz.func68, Tryz.ntmps68
  go_wp2
  go_loopw [5] (fun i wr => ∃ k : Nat, k ≤ 8 ∧ i = .int .i64 k ∧ RowAt wr w.heap.size (List.replicate k markS ++ List.replicate (8 - k) emptyS) ∧ Below w.heap.size w wr) (fun i _ => 8 - (intOf i).toNat)
  case atStart => exact ⟨0, by omega, rfl, hrow, hbel⟩
  case round =>
    obtain ⟨k, hk, rfl, hr, hb⟩ := hrel
    clear hrow hbel hcp hmk
    by_cases hlt : k < 8
    · have hcl : wr.cell? ⟨w.heap.size, k, none⟩ = some (.string emptyS) := by
        refine row_cell hr (strV_get ?_)
        rw [List.getElem?_append_right (by simp), List.getElem?_replicate, if_pos (by simp; omega)]
      have hfz : wr.frozen? ⟨w.heap.size, k, none⟩ = false := row_frozen hr _
      have hr2 : RowAt (wr.setCell ⟨w.heap.size, k, none⟩ (.string markS)) w.heap.size (List.replicate (k + 1) markS ++ List.replicate (8 - (k + 1)) emptyS) := by
        unfold RowAt at hr ⊢
        rw [row_set hr, strV_set]
        congr 4
        rw [List.set_append_right _ _ (by simp), List.length_replicate, Nat.sub_self, List.replicate_succ', List.append_assoc]
        congr 1
        rw [show 8 - k = (8 - (k + 1)) + 1 by omega, List.replicate_succ]; rfl
      have hb2 := hb.setCell (p := ⟨w.heap.size, k, none⟩) (Nat.le_refl _) (.string markS)
      have HB : Hid (RowAt (wr.setCell ⟨w.heap.size, k, none⟩ (.string markS)) w.heap.size (List.replicate (k + 1) markS ++ List.replicate (8 - (k + 1)) emptyS) ∧ Below w.heap.size w (wr.setCell ⟨w.heap.size, k, none⟩ (.string markS))) := ⟨hr2, hb2⟩
      clear hr2 hb2 hr hb
      go_wp2
      go_roundw
      case rel => exact ⟨k + 1, by omega, by go_num, HB.out.1, HB.out.2⟩
      case measure => simp [intOf]; omega
    · obtain rfl : k = 8 := by omega
      go_wp2
      go_ret
      exact ⟨rfl, by simpa using hr, hb⟩

set_option maxRecDepth 100000 in
set_option maxHeartbeats 1000000 in
theorem still_zero (a : Addr) (g : Nat) (w : World) (hr0 : RowAt w g (List.replicate 8 markS)) :
    Calls Tryz.prog 69 #[.slice (some ⟨g, 0, none⟩) 8 8, .slice (some a) 0 0] w fun e w' => e = .returned (.bool true) ∧ w.grownBy w' (some g) := by
  have HR : Hid (RowAt w g (List.replicate 0 overS ++ (List.replicate 8 markS).drop 0)) := hr0
  clear hr0
  go_enter Tryz.func69, Tryz.ntmps69
  go_wp2
  go_loopw [5] (fun i wr => ∃ k : Nat, k ≤ 8 ∧ i = .int .i64 k ∧ RowAt wr g (List.replicate k overS ++ (List.replicate 8 markS).drop k) ∧ w.grownBy wr (some g)) (fun i _ => 8 - (intOf i).toNat)
  case atStart => exact ⟨0, by omega, rfl, HR.out, kept_refl _ _⟩
  case round =>
    obtain ⟨k, hk, rfl, hr, hb⟩ := hrel
    by_cases hlt : k < 8
    · have hkl : k < (List.replicate 8 markS).length := by simp; omega
      have hcl : wr.cell? ⟨g, k, none⟩ = some (.string markS) := by
        refine row_cell hr (strV_get ?_)
        rw [List.getElem?_append_right (by simp), List.length_replicate, Nat.sub_self, List.getElem?_drop, Nat.add_zero, List.getElem?_replicate, if_pos hlt]
      have hfz : wr.frozen? ⟨g, k, none⟩ = false := row_frozen hr _
      have HB : Hid (RowAt (wr.setCell ⟨g, k, none⟩ (.string overS)) g (List.replicate (k + 1) overS ++ (List.replicate 8 markS).drop (k + 1)) ∧ w.grownBy (wr.setCell ⟨g, k, none⟩ (.string overS)) (some g)) := by
        refine ⟨?_, kept_set hb k _⟩
        unfold RowAt at hr ⊢
        rw [row_set hr, strV_set, over_set _ _ hkl]
      have hyy : (markS.toList == [109, 97, 114, 107]) = true := by rw [show markS.toList = [109, 97, 114, 107] by rw [Lib.toList_data]; rfl]; rfl
      have hk0 : ¬ (k : Int) < 0 := by omega
      clear hr hb hkl HR
      go_wp2
      go_roundw
      case rel => exact ⟨k + 1, by omega, by go_num, HB.out.1, HB.out.2⟩
      case measure => simp [intOf]; omega
    · obtain rfl : k = 8 := by omega
      clear HR hr
      go_wp2
      go_ret
      exact ⟨rfl, hb⟩

set_option maxRecDepth 100000 in
set_option maxHeartbeats 4000000 in
theorem refOpen_zero (a : Addr) (wk qu : Int) (w : World) : Calls Tryz.prog 70 #[.slice (some a) 0 0, .int .i64 wk, .int .i64 qu] w (ROPost [] wk qu w) := by
  cases hb : argsBad 0 wk qu
  · have hb' := hb
    unfold argsBad at hb'
    simp at hb'
    obtain ⟨k, rfl⟩ : ∃ k : Nat, wk = (k : Int) := ⟨wk.toNat, by omega⟩
    have hmk := run_make_row' (P := Tryz.prog) 25 3 (.int .i64 0) 8 Tryz.underlying25 Tryz.infoInt rfl .i64 .i64 k (by omega) (by omega)
    have HA : Hid (argsBad ([] : List ByteArray).length k qu = false) := hb
    have t2 : decide ((k : Int) < 1) = false := by simp; omega
    have t3 : decide (4 < (k : Int)) = false := by simp; omega
    have t4 : decide (qu < 1) = false := by simp; omega
    have t5 : decide (6 < qu) = false := by simp; omega
    have HST : Hid (ROInv [] w k qu _ 0 (.slice none 0 0)) := ROInv.start [] w k qu
    clear hb hb'
    go_enter Tryz.func70, Tryz.ntmps70
    go_wp2
    refine wp_loop_rounds 1 ?_
    rw [rounds_succ]
    go_wp2
    refine bodyPost_ret (v := .tuple #[.pointer (some ⟨w.heap.size + 1, 0, none⟩), .int .i64 0, .int .i64 0]) (by simp [results, Tryz.results70, go_sem]) rfl ⟨HST.out.below, Or.inr ⟨HA.out, Or.inr ⟨openErr_none fun j hj => absurd hj (Nat.not_lt_zero j), w.heap.size + 1, _, w.heap.size, k, rfl, Nat.le_succ _, HST.out.gate, World.ownsRow_nil _ _ _ _, rfl, Nat.le_refl _, HST.out.wrk⟩⟩⟩
  · have HP : Hid (∀ e, e = .returned (.tuple #[.pointer none, .int .i64 0, .int .i64 1]) → ROPost [] wk qu w e w) := fun e he => ⟨Below.refl _ _, Or.inl ⟨hb, he⟩⟩
    generalize ROPost [] wk qu w = post at *
    unfold argsBad at hb
    by_cases h2 : wk < 1
    · clear hb
      go_enter Tryz.func70, Tryz.ntmps70
      go_wp2
      refine bodyPost_ret (v := .tuple #[.pointer none, .int .i64 0, .int .i64 1]) (by simp [results, Tryz.results70, go_sem]) rfl (HP.out _ rfl)
    · by_cases h3 : 4 < wk
      · clear hb
        go_enter Tryz.func70, Tryz.ntmps70
        go_wp2
        refine bodyPost_ret (v := .tuple #[.pointer none, .int .i64 0, .int .i64 1]) (by simp [results, Tryz.results70, go_sem]) rfl (HP.out _ rfl)
      · by_cases h4 : qu < 1
        · clear hb
          go_enter Tryz.func70, Tryz.ntmps70
          go_wp2
          refine bodyPost_ret (v := .tuple #[.pointer none, .int .i64 0, .int .i64 1]) (by simp [results, Tryz.results70, go_sem]) rfl (HP.out _ rfl)
        · have h5 : 6 < qu := by simp [h2, h3, h4] at hb; omega
          clear hb
          go_enter Tryz.func70, Tryz.ntmps70
          go_wp2
          refine bodyPost_ret (v := .tuple #[.pointer none, .int .i64 0, .int .i64 1]) (by simp [results, Tryz.results70, go_sem]) rfl (HP.out _ rfl)

set_option maxRecDepth 100000 in
set_option maxHeartbeats 800000 in
theorem refWrite_zero (a : Addr) (b : Nat) (g : Rg) (rs : List (ByteArray × ByteArray)) (now : List ByteArray) (w : World) (hg : RgAt w b g) (hcl : g.closed = false) (hnow : StrT w g.nowV now) (hnl : now.length ≤ 50) (hnb : ∀ a m c, g.nowV = .slice (some a) m c → a.block ≠ b) (hver : 0 ≤ g.version ∧ g.version ≤ 4611686018427387904) :
    Calls Tryz.prog 35 #[.pointer (some ⟨b, 0, none⟩), .slice (some a) 0 0] w fun e w' => WPost w b g (batchL rs now 0 []) e w' := by
  have h4 : w.cell? ⟨b, 4, none⟩ = some (.bool g.closed) := row_cell hg rfl
  have h1 : w.cell? ⟨b, 1, none⟩ = some g.nowV := row_cell hg rfl
  have c2 : w.cell? ⟨b, 2, none⟩ = some (.int .i64 g.version) := row_cell hg rfl
  have f1 : w.frozen? ⟨b, 1, none⟩ = false := row_frozen hg _
  have f2 : w.frozen? ⟨b, 2, none⟩ = false := row_frozen hg _
  rw [hcl] at h4
  have HP : Hid (∀ e w', (∃ v, e = .returned (.tuple #[.int .i64 (g.version + 1), .int .i64 0, .int .i64 0]) ∧ RgAt w' b { g with nowV := v, version := g.version + 1 } ∧ StrT w' v now ∧ w.grownBy w' (some b)) → WPost w b g (batchL rs now 0 []) e w') := by
    intro e w' h
    show if 50 < now.length then _ else _
    rw [if_neg (by omega)]; exact h
  have HK : Hid (∀ v' : Value, RgAt ((w.setCell ⟨b, 1, none⟩ v').setCell ⟨b, 2, none⟩ (.int .i64 (g.version + 1))) b { g with nowV := v', version := g.version + 1 } ∧ w.grownBy ((w.setCell ⟨b, 1, none⟩ v').setCell ⟨b, 2, none⟩ (.int .i64 (g.version + 1))) (some b)) :=
    fun v' => ⟨row_set (row_set hg 1 v') 2 _, kept_set (kept_set (kept_refl _ _) _ _) _ _⟩
  have HS : Hid (∀ u1 u2, StrT ((w.setCell ⟨b, 1, none⟩ u1).setCell ⟨b, 2, none⟩ u2) g.nowV now) := by
    intro u1 u2
    rcases hnow with h | ⟨sb, sc, cur, hv, hh, ht⟩
    · exact Or.inl h
    · have hne : sb ≠ b := hnb _ _ _ hv
      exact Or.inr ⟨sb, sc, cur, hv, by rw [Below.heap_setCell _ _ _ _ hne, Below.heap_setCell _ _ _ _ hne]; exact hh, ht⟩
  have HV : Hid (StrT w g.nowV now) := hnow
  clear hnow hnb hg
  generalize g.nowV = nv at *
  rcases HV.out with ⟨rfl, rfl⟩ | ⟨sb, sc, cur, rfl, -⟩
  all_goals
    go_enter Tryz.func35, Tryz.ntmps35
    go_wp2
    refine wp_loop_rounds 1 ?_
    rw [rounds_succ]
    go_wp2
    go_ret3
    exact HP.out _ _ ⟨_, rfl, (HK.out _).1, HS.out _ _, (HK.out _).2⟩

end Go.Proofs.YtalmoiogbdahcaaGreat
