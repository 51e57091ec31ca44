import Derived.Test.YtalmoiogbdahcaaGreatYLawA
import Derived.Laws.CopyOwn
import Derived.Deep.OwnRows
import Derived.Lib.SliceRun
namespace Go.Proofs.YtalmoiogbdahcaaGreat
set_option maxRecDepth 100000
set_option maxHeartbeats 8000000
open Go.RowKit
theorem row_cell {w : World} {g : Nat} {cs : List Value} {t : TypeId} {fz : Nat × Nat} (h : w.heap[g]? = some (.cells cs.toArray t fz)) {j : Nat} {u : Value} (hj : cs[j]? = some u) : w.cell? ⟨g, j, none⟩ = some u := by
 simp [World.cell?, h, hj]
theorem row_frozen {w : World} {g : Nat} {cs : List Value} {t : TypeId} (h : w.heap[g]? = some (.cells cs.toArray t (0, 0))) (j : Nat) : w.frozen? ⟨g, j, none⟩ = false := by
 simp [World.frozen?, h]
theorem row_set {w : World} {g : Nat} {cs : List Value} {t : TypeId} {fz : Nat × Nat} (h : w.heap[g]? = some (.cells cs.toArray t fz)) (j : Nat) (u : Value) : (w.setCell ⟨g, j, none⟩ u).heap[g]? = some (.cells (cs.set j u).toArray t fz) := by
 simp only [World.setCell, Array.getElem?_modify]
 rw [h]
 simp
def strV (xs : List ByteArray) : List Value := xs.map Value.string
theorem strV_get {xs : List ByteArray} {j : Nat} {x : ByteArray} (h : xs[j]? = some x) : (strV xs)[j]? = some (.string x) := by simp [strV, h]
theorem strV_set (xs : List ByteArray) (j : Nat) (x : ByteArray) : (strV xs).set j (.string x) = strV (xs.set j x) := by simp [strV, List.map_set]
theorem strV_append (xs ys : List ByteArray) : strV (xs ++ ys) = strV xs ++ strV ys := by simp [strV]
theorem strV_length (xs : List ByteArray) : (strV xs).length = xs.length := by simp [strV]
theorem strV_one (xs : List ByteArray) : ∀ v ∈ strV xs, v.oneCell' = true := by
 intro v hv
 simp only [strV, List.mem_map] at hv
 obtain ⟨x, -, rfl⟩ := hv
 rfl
def RowAt (w : World) (g : Nat) (xs : List ByteArray) : Prop := w.heap[g]? = some (.cells (strV xs).toArray 9 (0, 0))
def markS : ByteArray := { data := #[109, 97, 114, 107] }
def overS : ByteArray := { data := #[43, 119, 114, 105, 116, 116, 101, 110, 35, 111, 118, 101, 114, 64, 98, 121, 58, 117, 115] }
def emptyS : ByteArray := { data := #[] }
theorem Tryz.infoStr : (Tryz.prog.info? 9).map (fun i => (i.zero, i.size, i.bytes)) = some (some (.string { data := #[] }), 1, 16) := by kernel_rfl
theorem Tryz.infoStr1 : (Tryz.prog.info? 9).map (·.size) = some 1 := by kernel_rfl
theorem made_strs (n : Nat) : (madeCells #[.string { data := #[] }] n) = (strV (List.replicate n emptyS)).toArray := by
 apply Array.ext'
 apply List.ext_getElem
 ·simp [madeCells, strV]
 ·intro i h1 h2
  simp [madeCells, strV, emptyS, Nat.mod_one]
theorem handed_nil (w : World) :
  Calls Tryz.prog 68 #[.slice none 0 0] w fun e w' => e = .returned (.slice none 0 0) /\ w' = w := by
 have hq := fun (w : World) (a : Option Addr) (n c n' c' : Nat) => Lib.run_eql_slice_nil (P := Tryz.prog) w 28 9 a n c n' c' Tryz.underlying28
 go_enter Tryz.func68, Tryz.ntmps68
 go_wp2
 go_ret
 exact ⟨rfl, rfl⟩
theorem copy_made (b off cap : Nat) (xs : List ByteArray) (w : World) (hc : ∀ i x, xs[i]? = some x -> w.cell? ⟨b, off + i, none⟩ = some (.string x)) (n : Nat) (hn : xs.length = n) :
  ∃ W2, (Builtin.copy_ #[28, 28] 3 #[.slice (some ⟨w.heap.size, 0, none⟩) (n + 8) (n + 8), .slice (some ⟨b, off, none⟩) n cap]).run Tryz.prog (w.alloc (.cells (madeCells #[.string { data := #[] }] (n + 8)) 9)) = .ok (goInt n) W2 /\
   RowAt W2 w.heap.size (xs ++ List.replicate 8 emptyS) /\ Below w.heap.size w W2 := by
 have hg : (w.alloc (.cells (madeCells #[.string { data := #[] }] (n + 8)) 9)).heap[w.heap.size]? = some (.cells (strV (List.replicate (n + 8) emptyS)).toArray 9 (0, 0)) := by
  rw [made_strs]
  show (w.heap.push _)[w.heap.size]? = _
  simp
 have hsrc : ∀ j v, (strV xs)[j]? = some v -> (w.alloc (.cells (madeCells #[.string { data := #[] }] (n + 8)) 9)).cell? ((⟨b, off, none⟩ : Addr).add j) = some v := by
  intro j v hj
  simp only [strV, List.getElem?_map, Option.map_eq_some_iff] at hj
  obtain ⟨x, hx, rfl⟩ := hj
  have h1 := hc j x hx
  have hb : b < w.heap.size := by
   rcases Nat.lt_or_ge b w.heap.size with h | h
   ·exact h
   ·simp [World.cell?, Array.getElem?_eq_none h] at h1
  rw [← h1]
  rw [show (⟨b, off, none⟩ : Addr).add j = ⟨b, off + j, none⟩ by simp [Addr.add]]
  exact ((Below.refl w.heap.size w).alloc (Nat.le_refl _) _).cell (p := ⟨b, off + j, none⟩) hb
 have h := run_copy_row (P := Tryz.prog) (w.alloc (.cells (madeCells #[.string { data := #[] }] (n + 8)) 9)) 28 28 3 9 w.heap.size 0 (n + 8) (n + 8) ⟨b, off, none⟩ n cap _ 9 (strV xs) Tryz.underlying28 Tryz.infoStr1 hg (by rw [strV_length, hn]; exact (Nat.min_eq_left (by omega)).symm) hsrc (by simp [strV_length]; omega) (strV_one _)
 refine ⟨_, by rw [h, strV_length, hn], ?_, ?_⟩
 ·unfold RowAt
  rw [setRow_heap _ _ _ _ _ _ hg]
  refine congrArg some ?_
  refine congrArg (fun x => Obj.cells x 9 (0, 0)) ?_
  refine congrArg List.toArray ?_
  simp only [List.take_zero, List.nil_append, Nat.zero_add, strV_append]
  refine congrArg (strV xs ++ ·) ?_
  simp only [strV, List.map_replicate, List.drop_replicate]
  rw [show n + 8 - n = 8 by omega]
 ·exact below_setRow ((Below.refl w.heap.size w).alloc (Nat.le_refl _) _) (Nat.le_refl _) _
theorem handed_any (b off cap : Nat) (xs : List ByteArray) (w : World) (hc : ∀ i x, xs[i]? = some x -> w.cell? ⟨b, off + i, none⟩ = some (.string x)) (hl : xs.length <= 8796093022208) :
  Calls Tryz.prog 68 #[.slice (some ⟨b, off, none⟩) xs.length cap] w fun e w' => e = .returned (.slice (some ⟨w.heap.size, 0, none⟩) (xs.length + 8) (xs.length + 8)) /\ RowAt w' w.heap.size (xs ++ List.replicate 8 markS) /\ Below w.heap.size w w' := by
 obtain ⟨n, hn⟩ : ∃ n, xs.length = n := ⟨_, rfl⟩
 have HX : Hid (xs.length = n) := hn
 rw [hn] at hl ⊢
 clear hn
 have hmk := run_make_row' (P := Tryz.prog) 28 9 (.string { data := #[] }) 16 Tryz.underlying28 Tryz.infoStr rfl .i64 .i64 (n + 8) (by omega) (by omega)
 have hq := fun (w : World) (a : Option Addr) (n c n' c' : Nat) => Lib.run_eql_slice_nil (P := Tryz.prog) w 28 9 a n c n' c' Tryz.underlying28
 obtain ⟨W2, hcp, hrow, hbel⟩ := copy_made b off cap xs w hc n HX.out
 have ec : ((n + 8 : Nat) : Int) = (n : Int) + 8 := by omega
 rw [ec] at hmk
 clear ec
 go_enter Tryz.func68, Tryz.ntmps68
 go_wp2
 go_loopw [5] (fun i wr => ∃ k : Nat, k <= 8 /\ i = .int .i64 ((n : Int) + k) /\ RowAt wr w.heap.size (xs ++ (List.replicate k markS ++ List.replicate (8 - k) emptyS)) /\ Below w.heap.size w wr) (fun i _ => n + 8 - (intOf i).toNat)
 case atStart => exact ⟨0, by omega, by go_num, hrow, hbel⟩
 case round =>
  obtain ⟨k, hk, rfl, hr, hb⟩ := hrel
  clear hrow hbel hcp hmk
  by_cases hlt : k < 8
  ·have hxl := HX.out
   have hcl : wr.cell? ⟨w.heap.size, n + k, none⟩ = some (.string emptyS) := by
    refine row_cell hr (strV_get ?_)
    rw [List.getElem?_append_right (by omega), List.getElem?_append_right (by simp; omega), List.getElem?_replicate, if_pos (by simp; omega)]
   have hfz : wr.frozen? ⟨w.heap.size, n + k, none⟩ = false := row_frozen hr _
   have hr2 : RowAt (wr.setCell ⟨w.heap.size, n + k, none⟩ (.string markS)) w.heap.size (xs ++ (List.replicate (k + 1) markS ++ List.replicate (8 - (k + 1)) emptyS)) := by
    unfold RowAt at hr ⊢
    rw [row_set hr, strV_set]
    congr 4
    rw [List.set_append_right _ _ (by omega), hxl, Nat.add_sub_cancel_left, List.set_append_right _ _ (by simp), List.length_replicate, Nat.sub_self, List.replicate_succ', List.append_assoc]
    congr 2
    rw [show 8 - k = (8 - (k + 1)) + 1 by omega, List.replicate_succ]; rfl
   have hb2 := hb.setCell (p := ⟨w.heap.size, n + k, none⟩) (Nat.le_refl _) (.string markS)
   have HB : Hid (RowAt (wr.setCell ⟨w.heap.size, n + k, none⟩ (.string markS)) w.heap.size (xs ++ (List.replicate (k + 1) markS ++ List.replicate (8 - (k + 1)) emptyS)) /\ Below w.heap.size w (wr.setCell ⟨w.heap.size, n + k, none⟩ (.string markS))) := ⟨hr2, hb2⟩
   clear hr2 hb2 hr hb hxl
   go_wp2
   go_roundw
   case rel => exact ⟨k + 1, by omega, by go_num, HB.out.1, HB.out.2⟩
   case measure => simp [intOf]; omega
  ·obtain rfl : k = 8 := by omega
   go_wp2
   go_ret
   exact ⟨rfl, by simpa using hr, hb⟩
theorem kept_refl (w : World) (row : Option Nat) : w.grownBy w row := ⟨rfl, rfl, rfl, Nat.le_refl _, fun _ _ _ => rfl⟩
theorem kept_set {w wr : World} {g : Nat} (h : w.grownBy wr (some g)) (j : Nat) (u : Value) : w.grownBy (wr.setCell ⟨g, j, none⟩ u) (some g) :=
 ⟨h.os, h.tape, h.output, by simpa [World.setCell] using h.size, fun k hk hne => by
  rw [Below.heap_setCell _ _ _ _ (by intro e; exact hne (by rw [e]))]; exact h.block k hk hne⟩
theorem kept_cell {w wr : World} {g : Nat} (h : w.grownBy wr (some g)) {b o : Nat} (hb : b < w.heap.size) (hne : b ≠ g) : wr.cell? ⟨b, o, none⟩ = w.cell? ⟨b, o, none⟩ :=
 World.cell?_of_block (h.block b hb (by intro e; exact hne (by simpa using e)))
theorem cell_lt {w : World} {b o : Nat} {u : Value} (h : w.cell? ⟨b, o, none⟩ = some u) : b < w.heap.size := by
 rcases Nat.lt_or_ge b w.heap.size with h1 | h1
 ·exact h1
 ·simp [World.cell?, Array.getElem?_eq_none h1] at h
theorem row_lt {w : World} {g : Nat} {o : Obj} (h : w.heap[g]? = some o) : g < w.heap.size := (Array.getElem?_eq_some_iff.1 h).1
theorem still_nil (w : World) :
  Calls Tryz.prog 69 #[.slice none 0 0, .slice none 0 0] w fun e w' => e = .returned (.bool true) /\ w' = w := by
 go_enter Tryz.func69, Tryz.ntmps69
 go_wp2
 refine wp_loop_rounds 1 ?_
 rw [rounds_succ]
 go_wp2
 go_ret
 exact ⟨rfl, rfl⟩
theorem over_set (xs : List ByteArray) (k : Nat) (h : k < xs.length) : (List.replicate k overS ++ xs.drop k).set k overS = List.replicate (k + 1) overS ++ xs.drop (k + 1) := by
 rw [List.set_append_right _ _ (by simp), List.length_replicate, Nat.sub_self, List.drop_eq_getElem_cons h, List.replicate_succ', List.append_assoc]
 rfl
theorem still_any (b off cap g : Nat) (xs : List ByteArray) (w : World) (hc : ∀ i x, xs[i]? = some x -> w.cell? ⟨b, off + i, none⟩ = some (.string x)) (hbg : b ≠ g) (hl : xs.length <= 8796093022208) (hr0 : RowAt w g (xs ++ List.replicate 8 markS)) :
  Calls Tryz.prog 69 #[.slice (some ⟨g, 0, none⟩) (xs.length + 8) (xs.length + 8), .slice (some ⟨b, off, none⟩) xs.length cap] w fun e w' => e = .returned (.bool true) /\ w.grownBy w' (some g) := by
 obtain ⟨n, hn⟩ : ∃ n, xs.length = n := ⟨_, rfl⟩
 have HX : Hid (xs.length = n) := hn
 rw [hn] at hl ⊢
 clear hn
 have HR : Hid (RowAt w g (List.replicate 0 overS ++ (xs ++ List.replicate 8 markS).drop 0)) := hr0
 clear hr0
 go_enter Tryz.func69, Tryz.ntmps69
 go_wp2
 go_loopw [5] (fun i wr => ∃ k : Nat, k <= n + 8 /\ i = .int .i64 k /\ RowAt wr g (List.replicate k overS ++ (xs ++ List.replicate 8 markS).drop k) /\ w.grownBy wr (some g)) (fun i _ => n + 8 - (intOf i).toNat)
 case atStart => exact ⟨0, by omega, rfl, HR.out, kept_refl _ _⟩
 case round =>
  obtain ⟨k, hk, rfl, hr, hb⟩ := hrel
  by_cases hlt : k < n + 8
  ·have hxl := HX.out
   have hkl : k < (xs ++ List.replicate 8 markS).length := by simp; omega
   obtain ⟨y, hy⟩ : ∃ y, (xs ++ List.replicate 8 markS)[k] = y := ⟨_, rfl⟩
   have hcl : wr.cell? ⟨g, k, none⟩ = some (.string y) := by
    refine row_cell hr (strV_get ?_)
    rw [List.getElem?_append_right (by simp), List.length_replicate, Nat.sub_self, List.getElem?_drop, Nat.add_zero, List.getElem?_eq_getElem hkl, hy]
   have hfz : wr.frozen? ⟨g, k, none⟩ = false := row_frozen hr _
   have HB : Hid (RowAt (wr.setCell ⟨g, k, none⟩ (.string overS)) g (List.replicate (k + 1) overS ++ (xs ++ List.replicate 8 markS).drop (k + 1)) /\ w.grownBy (wr.setCell ⟨g, k, none⟩ (.string overS)) (some g)) := by
    refine ⟨?_, kept_set hb k _⟩
    unfold RowAt at hr ⊢
    rw [row_set hr, strV_set, over_set _ _ hkl]
   by_cases hkn : k < n
   ·have hxk : xs[k]? = some y := by
     rw [List.getElem?_eq_getElem (by omega)]
     rw [List.getElem_append_left (by omega)] at hy
     rw [hy]
    have hlc : wr.cell? ⟨b, off + k, none⟩ = some (.string y) := by
     have h1 := hc k y hxk
     rw [kept_cell hb (cell_lt h1) hbg]; exact h1
    clear hr hb hxl hc hy hkl hxk HR
    have hyy : (y.toList == y.toList) = true := by simp
    go_wp2
    go_roundw
    case rel => exact ⟨k + 1, by omega, by go_num, HB.out.1, HB.out.2⟩
    case measure => simp [intOf]; omega
   ·have hym : y = markS := by
     rw [List.getElem_append_right (by omega), List.getElem_replicate] at hy
     exact hy.symm
    subst hym
    have hyy : (markS.toList == [109, 97, 114, 107]) = true := by rw [show markS.toList = [109, 97, 114, 107] by rw [Lib.toList_data]; rfl]; rfl
    clear hr hb hxl hc hy hkl HR
    go_wp2
    go_roundw
    case rel => exact ⟨k + 1, by omega, by go_num, HB.out.1, HB.out.2⟩
    case measure => simp [intOf]; omega
  ·obtain rfl : k = n + 8 := by omega
   clear hc HR hr
   go_wp2
   go_ret
   exact ⟨rfl, hb⟩
def ValsAt (w : World) (v : Value) (us : List Value) : Prop :=
 (v = .slice none 0 0 /\ us = []) \/ ∃ b cap, v = .slice (some ⟨b, 0, none⟩) us.length cap /\ ∀ i u, us[i]? = some u -> w.cell? ⟨b, i, none⟩ = some u
def LwAt (w : World) (b : Nat) (ps l1 l3 : Value) : Prop := w.heap[b]? = some (.cells [ps, l1, l3].toArray 61 (0, 0))
def FullAt (w : World) (v : Value) (m : ByteArray) : Prop := ∃ xs, StrsAt w v xs /\ xs.length <= maxLen /\ allAre xs m = true
theorem full_yes (v : Value) (m : ByteArray) (w : World) (h : FullAt w v m) : Calls Tryz.prog 82 #[v, .string m] w fun e w' => e = .returned (.bool true) /\ w' = w := by
 obtain ⟨xs, h1, h2, h3⟩ := h
 have := full_any v xs m w h1 h2
 rw [h3] at this
 exact this
theorem looks_any (b : Nat) (ps l1 l3 : Value) (us ws : List Value) (w : World) (hw : LwAt w b ps l1 l3) (h1 : ValsAt w l1 us) (h3 : ValsAt w l3 ws) (hl : ws.length = 3 * us.length) (hm : us.length <= 140737488355328)
  (hf : ∀ k u, us[k]? = some u -> FullAt w u (strokesS k)) (hf3 : ∀ k j u, k < us.length -> j < 3 -> ws[3 * k + j]? = some u -> FullAt w u (strokesS k)) :
  Calls Tryz.prog 37 #[.pointer (some ⟨b, 0, none⟩)] w fun e w' => e = .returned (.bool true) /\ w' = w := by
 have c1 : w.cell? ⟨b, 1, none⟩ = some l1 := row_cell hw rfl
 have c2 : w.cell? ⟨b, 2, none⟩ = some l3 := row_cell hw rfl
 clear hw
 rcases h1 with ⟨rfl, rfl⟩ | ⟨b1, cap1, rfl, hc1⟩
 ·go_enter Tryz.func37, Tryz.ntmps37
  go_wp2
  refine wp_loop_rounds 1 ?_
  rw [rounds_succ]
  go_wp2
  go_ret
  exact ⟨rfl, rfl⟩
 ·obtain ⟨m, hmm⟩ : ∃ m, us.length = m := ⟨_, rfl⟩
  have HX : Hid (us.length = m) := hmm
  rw [hmm] at c1 hm hl hf3
  have H3 : Hid (ValsAt w l3 ws /\ ws.length = 3 * m) := ⟨h3, hl⟩
  clear hmm h3 hl
  go_enter Tryz.func37, Tryz.ntmps37
  go_wp2
  go_loop [3] (fun i => ∃ k : Nat, k <= m /\ i = .int .i64 k) (fun i => m - (intOf i).toNat)
  case atStart => exact ⟨0, Nat.zero_le _, rfl⟩
  case round =>
   obtain ⟨k, hk, rfl⟩ := hrel
   by_cases hlt : k < m
   ·have hkx : k < us.length := by have := HX.out; omega
    obtain ⟨u, hu⟩ : ∃ u, us[k]? = some u := ⟨_, List.getElem?_eq_getElem hkx⟩
    have d0 := hc1 k u hu
    have hfu := full_yes u (strokesS k) w (hf k u hu)
    rcases H3.out with ⟨⟨-, e0⟩ | ⟨b3, cap3, e3, hc3⟩, e4⟩
    ·rw [e0] at e4; simp at e4; omega
    ·rw [e4] at e3
     obtain ⟨v0, hv0⟩ : ∃ u, ws[3 * k + 0]? = some u := ⟨_, List.getElem?_eq_getElem (by omega)⟩
     obtain ⟨v1, hv1⟩ : ∃ u, ws[3 * k + 1]? = some u := ⟨_, List.getElem?_eq_getElem (by omega)⟩
     obtain ⟨v2, hv2⟩ : ∃ u, ws[3 * k + 2]? = some u := ⟨_, List.getElem?_eq_getElem (by omega)⟩
     have d1 : w.cell? ⟨b3, 3 * k, none⟩ = some v0 := hc3 _ _ hv0
     have d2 := hc3 _ _ hv1
     have d3 := hc3 _ _ hv2
     have hfa := full_yes v0 (strokesS k) w (hf3 k 0 v0 hlt (by omega) hv0)
     have hfb := full_yes v1 (strokesS k) w (hf3 k 1 v1 hlt (by omega) hv1)
     have hfc := full_yes v2 (strokesS k) w (hf3 k 2 v2 hlt (by omega) hv2)
     have hst := fun w => strokes_any k w (by omega)
     subst e3
     clear hv0 hv1 hv2 hc3 hf hf3 hu hc1 hkx e4
     generalize strokesS k = sk at *
     go_wp2_with (first | (go_at_call 81; refine (hst _).mono ?_; rintro e w' ⟨rfl, rfl⟩) | (go_at_call 82; refine hfu.mono ?_; clear hfu; rintro e w' ⟨rfl, rfl⟩) | (go_at_call 82; refine hfa.mono ?_; clear hfa; rintro e w' ⟨rfl, rfl⟩) | (go_at_call 82; refine hfb.mono ?_; clear hfb; rintro e w' ⟨rfl, rfl⟩) | (go_at_call 82; refine hfc.mono ?_; rintro e w' ⟨rfl, rfl⟩))
     go_round
     case rel => exact ⟨k + 1, by omega, by go_num⟩
     case measure => simp [intOf]; omega
   ·obtain rfl : k = m := by omega
    clear hc1 hf hf3
    go_wp2
    go_ret
    exact ⟨rfl, rfl⟩
end Go.Proofs.YtalmoiogbdahcaaGreat
