import Derived.Test.YtalmoiogbdahcaaGreatYRowA
import Derived.Test.YtalmoiogbdahcaaGreatYStpE
namespace Go.Proofs.YtalmoiogbdahcaaGreat
set_option maxRecDepth 100000
set_option maxHeartbeats 8000000
open Go.ChangeShapes Go.WideShapes Go.ChangeAt Go.RowKit Go.Deep
section
variable {H : Type} {enc : TypeId × Value -> H} {W : World}
theorem op_open2 {fuel : Nat} {b o : Nat} {cs : List Value} {x : DataW H × List MemPlace} (hcs : W.cells? 0 ⟨b, o, none⟩ 6 = some cs) (h : DataW.trod enc Tryz.prog W 0 (fun _ => true) true fuel 69 cs = some x) (hw : ∀ n ∈ x.1.weights Tryz.prog 69, n <= reachBytes) :
  ∃ r, OpAt W b o r /\ OpOk2 W r := by
 obtain ⟨fs, hu, hfs⟩ := op_struct
 obtain ⟨ys, k, -, hx, -, hyl, hf⟩ := DataW.trod_struct hu h
 obtain ⟨-, hlen, hcell⟩ := World.cells?_some hcs
 have hcell' : ∀ j, j < 6 -> W.cell? ⟨b, o + j, none⟩ = cs[j]? := fun j hj => by rw [← add_plain]; exact hcell j hj
 match cs, hlen with
 | [v0, v1, v2, v3, v4, v5], _ =>
  have part : ∀ (i : Nat) (t : TypeId) (v : Value), [(3, 0), (3, 1), (3, 2), (3, 3), (9, 4), (28, 5)][i]? = some (t, i) -> Tryz.prog.cellsOf t = 1 -> ([v0, v1, v2, v3, v4, v5].drop i).take 1 = [v] -> ∃ y, ys[i]? = some y /\ DataW.trod enc Tryz.prog W 0 (fun _ => true) true k t [v] = some y := by
   intro i t v hi hc hv
   obtain ⟨f, hfi, e1, e2⟩ := field_at hfs hi
   have := hf i f hfi
   rw [e1, e2, hc, hv] at this
   have hil : i < ys.length := by rw [hyl]; exact (Array.getElem?_eq_some_iff.1 hfi).1
   exact ⟨ys[i], List.getElem?_eq_getElem hil, by rw [this, List.getElem?_eq_getElem hil]⟩
  obtain ⟨y0, -, g0⟩ := part 0 _ v0 rfl Tryz.rIntCells rfl
  obtain ⟨y1, -, g1⟩ := part 1 _ v1 rfl Tryz.rIntCells rfl
  obtain ⟨y2, -, g2⟩ := part 2 _ v2 rfl Tryz.rIntCells rfl
  obtain ⟨y3, -, g3⟩ := part 3 _ v3 rfl Tryz.rIntCells rfl
  obtain ⟨y4, e4, g4⟩ := part 4 _ v4 rfl Tryz.rStrCells rfl
  obtain ⟨y5, e5, g5⟩ := part 5 _ v5 rfl Tryz.txtCells rfl
  obtain ⟨n0, rfl, -⟩ := int_open g0
  obtain ⟨n1, rfl, hn1⟩ := int_open g1
  obtain ⟨n2, rfl, -⟩ := int_open g2
  obtain ⟨n3, rfl, -⟩ := int_open g3
  obtain ⟨s, hs, hs2, -⟩ := DataW.trod_string Tryz.underlying9 g4
  injection hs with hs
  subst hs
  have hw5 : ∀ n ∈ y5.1.weights Tryz.prog 28, n <= reachBytes := by
   intro n hn
   refine hw n ?_
   rw [hx, DataW.weights, hu]
   refine DataW.weights_mem_each (j := 5) (t := 28) (d := y5.1) ?_ (by rw [List.getElem?_map, e5]; rfl) n hn
   obtain ⟨f, hfi, e1, -⟩ := field_at hfs (i := 5) rfl
   rw [List.getElem?_map]
   have : fs.toList[5]? = some f := by simpa using hfi
   rw [this]; simp [e1]
  obtain ⟨xs, ht, hl, hsz⟩ := texts_open g5 hw5
  have hw4 : s.data.toList.length <= reachBytes := by
   refine hw _ ?_
   rw [hx, DataW.weights, hu]
   refine DataW.weights_mem_each (j := 4) (t := 9) (d := y4.1) ?_ (by rw [List.getElem?_map, e4]; rfl) _ ?_
   ·obtain ⟨f, hfi, e1, -⟩ := field_at hfs (i := 4) rfl
    rw [List.getElem?_map]
    have : fs.toList[4]? = some f := by simpa using hfi
    rw [this]; simp [e1]
   ·rw [hs2]; simp [DataW.weights]
  have hs4 : s.size <= maxLen := by
   have e : s.size = s.data.toList.length := by rw [Array.length_toList]; rfl
   unfold reachBytes at hw4
   rw [e]; unfold maxLen; omega
  refine ⟨⟨n0, n1, n2, n3, s, v5, xs⟩, ⟨hcell' 0 (by omega), hcell' 1 (by omega), hcell' 2 (by omega), hcell' 3 (by omega), hcell' 4 (by omega), hcell' 5 (by omega)⟩, ⟨hn1, ht, hl, hsz⟩, hs4⟩
theorem script_open2 {fuel : Nat} {x : Option Addr} {n c : Nat} {d : DataW H} {ps : List MemPlace} (h : DataW.trod enc Tryz.prog W 0 (fun _ => true) true fuel 22 [.slice x n c] = some (d, ps)) (hw : ∀ k ∈ d.weights Tryz.prog 22, k <= reachBytes) :
  n = 0 \/ ∃ (b off : Nat) (ops : List OpR), x = some ⟨b, off, none⟩ /\ b < W.heap.size /\ ops.length = n /\ n * 72 <= 140737488351232 /\ ∀ i r, ops[i]? = some r -> OpAt W b (off + i * 6) r /\ OpOk2 W r := by
 rcases open_slice Tryz.underlying22 h with ⟨hcs, -⟩ | ⟨a, len, cap, m, k, D, Pl, hcs, -, hl, -, hm, hx, hel⟩
 ·injection hcs with hcs
  injection hcs with _ hcs
  exact Or.inl hcs
 ·injection hcs with hcs
  injection hcs with e1 e2 e3
  subst e1; subst e2; subst e3
  simp only [if_true] at hm
  subst hm
  rcases Nat.eq_zero_or_pos n with h0 | h0
  ·exact Or.inl h0
  ·right
   injection hx with hx _
   subst hx
   rw [Tryz.opCells] at hel
   have hwt : (Tryz.prog.underlying 22) = some (.slice 69) := Tryz.underlying22
   obtain ⟨b, off, spot⟩ := a
   have hspot : spot = none := by
    obtain ⟨cs', h1, -⟩ := hel 0 (by omega)
    obtain ⟨-, hlen, hc⟩ := World.cells?_some h1
    have := hc 0 (by omega)
    rw [List.getElem?_eq_getElem (by omega)] at this
    simpa [Addr.add] using World.cell?_spot this
   subst hspot
   have hbytes : n * 72 <= reachBytes := by
    have := hw ((((List.range n).map D).length + ((List.range (m - n)).map fun j => D (n + j)).length) * Tryz.prog.bytesOf 69) (by simp [DataW.weights, hwt])
    rw [Tryz.opBytes] at this
    simp only [List.length_map, List.length_range] at this
    exact Nat.le_trans (Nat.mul_le_mul_right 72 (Nat.le_add_right _ _)) this
   have each : ∀ i, i < n -> ∃ r, OpAt W b (off + i * 6) r /\ OpOk2 W r := by
    intro i hi
    obtain ⟨cs', h1, h2⟩ := hel i (by omega)
    rw [add_plain] at h1
    refine op_open2 h1 h2 fun q hq => hw q ?_
    rw [DataW.weights, hwt]
    exact List.mem_cons_of_mem _ (List.mem_append.2 (Or.inl (all_mem (List.mem_map.2 ⟨i, List.mem_range.2 hi, rfl⟩) q hq)))
   obtain ⟨R, hR⟩ := choose_lt each
   refine ⟨b, off, (List.range n).map R, rfl, ?_, by simp, hbytes, fun i r hr => ?_⟩
   ·exact cell_lt (hR 0 h0).1.1
   ·have hi : i < n := by have := (List.getElem?_eq_some_iff.1 hr).1; simpa using this
    rw [List.getElem?_map, List.getElem?_range hi] at hr
    injection hr with hr
    subst hr
    exact hR i hi
end
end Go.Proofs.YtalmoiogbdahcaaGreat
