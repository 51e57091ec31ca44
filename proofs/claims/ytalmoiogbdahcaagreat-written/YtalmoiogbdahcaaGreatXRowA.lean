import Derived.Test.YtalmoiogbdahcaaGreatXLawW
import Derived.ProofKit
import Derived.SizedLaws
import Derived.Deep.Slices

/- A script that came in, opened. -/
namespace Go.Proofs.YtalmoiogbdahcaaGreat
open Go.ChangeShapes Go.WideShapes Go.ChangeAt Go.RowKit Go.Deep

theorem Tryz.opCells : Tryz.prog.cellsOf 69 = 6 := by kernel_rfl
theorem Tryz.opBytes : Tryz.prog.bytesOf 69 = 72 := by kernel_rfl
theorem Tryz.rIntCells : Tryz.prog.cellsOf 3 = 1 := by kernel_rfl
theorem Tryz.rStrCells : Tryz.prog.cellsOf 9 = 1 := by kernel_rfl
theorem Tryz.rStrBytes : Tryz.prog.bytesOf 9 = 16 := by kernel_rfl
theorem Tryz.txtCells : Tryz.prog.cellsOf 28 = 1 := by kernel_rfl
def fieldsOf : Option TypeDesc → List (TypeId × Nat)
  | some (.struct fs) => fs.toList.map fun f => (f.type, f.offset)
  | _ => []
theorem Tryz.opFields : fieldsOf (Tryz.prog.underlying 69) = [(3, 0), (3, 1), (3, 2), (3, 3), (9, 4), (28, 5)] := by kernel_rfl
theorem op_struct : ∃ fs : Array Field, Tryz.prog.underlying 69 = some (.struct fs) ∧ fs.toList.map (fun f => (f.type, f.offset)) = [(3, 0), (3, 1), (3, 2), (3, 3), (9, 4), (28, 5)] := by
  have h := Tryz.opFields
  unfold fieldsOf at h
  split at h
  · rename_i fs e; exact ⟨fs, e, h⟩
  · cases h
theorem field_at {fs : Array Field} {l : List (TypeId × Nat)} (h : fs.toList.map (fun f => (f.type, f.offset)) = l) {i : Nat} {t : TypeId} {o : Nat} (hi : l[i]? = some (t, o)) : ∃ f, fs[i]? = some f ∧ f.type = t ∧ f.offset = o := by
  rw [← h, List.getElem?_map] at hi
  obtain ⟨f, hf, e⟩ := Option.map_eq_some_iff.1 hi
  injection e with e1 e2
  exact ⟨f, by simpa using hf, e1, e2⟩
theorem all_mem {H : Type} {P : Program} {e : TypeId} : ∀ {l : List (DataW H)} {d : DataW H}, d ∈ l → ∀ n ∈ d.weights P e, n ∈ DataW.weightsAll P e l := by
  intro l
  induction l with
  | nil => intro d hd; cases hd
  | cons a l ih =>
    intro d hd n hn
    rw [DataW.weightsAll, List.mem_append]
    rcases List.mem_cons.1 hd with rfl | hd
    · exact Or.inl hn
    · exact Or.inr (ih hd n hn)

section
variable {H : Type} {enc : TypeId × Value → H} {W : World}

/-- the texts of a step. -/
theorem texts_open {fuel : Nat} {v : Value} {x : DataW H × List MemPlace} (h : DataW.trod enc Tryz.prog W 0 (fun _ => true) true fuel 28 [v] = some x) (hw : ∀ n ∈ x.1.weights Tryz.prog 28, n ≤ reachBytes) :
    ∃ xs, TxtAt W v xs ∧ xs.length ≤ 8796093022208 ∧ ∀ y ∈ xs, y.size ≤ 140737488355328 := by
  rcases open_strings Tryz.underlying28 Tryz.underlying9 Tryz.rStrCells h with ⟨hcs, hx⟩ | ⟨a, len, cap, ss, hcs, _, hl, hm, hz, hx, hcell, hsz⟩
  · injection hcs with hcs
    exact ⟨[], Or.inl ⟨hcs, rfl⟩, Nat.zero_le _, fun y hy => absurd hy List.not_mem_nil⟩
  · injection hcs with hcs
    subst hcs
    simp only [if_true] at hz
    subst hx
    have hwt : (Tryz.prog.underlying 28) = some (.slice 9) := Tryz.underlying28
    have hlen : len * 16 ≤ reachBytes := by
      have := hw (((strs (H := H) (ss.take len)).length + (strs (H := H) (ss.drop len)).length) * Tryz.prog.bytesOf 9) (by simp [DataW.weights, hwt])
      rw [Tryz.rStrBytes] at this
      simp only [strs, List.length_map, List.length_take, List.length_drop] at this
      omega
    have hstr : ∀ y ∈ ss.take len, y.size ≤ reachBytes := by
      intro y hy
      have := hw y.data.toList.length (by
        rw [DataW.weights, hwt]
        refine List.mem_cons_of_mem _ (List.mem_append.2 (Or.inl ?_))
        refine all_mem (d := .lit (.string y.data.toList)) ?_ _ (by simp [DataW.weights])
        exact List.mem_map.2 ⟨y, hy, rfl⟩)
      simpa using this
    unfold reachBytes at hlen hstr
    refine ⟨ss.take len, ?_, by rw [List.length_take]; omega, fun y hy => Nat.le_trans (hstr y hy) (by omega)⟩
    by_cases hc0 : cap = 0
    · have hl0 : len = 0 := by omega
      subst hc0; subst hl0
      exact Or.inr (Or.inl ⟨a, rfl, rfl⟩)
    · obtain ⟨b, off, spot⟩ := a
      have hspot : spot = none := by simpa [Addr.add] using World.cell?_spot (hcell 0 (by omega))
      subst hspot
      have hcell' : ∀ j, j < ss.length → W.cell? ⟨b, off + j, none⟩ = some (.string (ss.getD j ByteArray.empty)) := fun j hj => by rw [← add_plain]; exact hcell j hj
      refine Or.inr (Or.inr ⟨b, off, cap, by rw [List.length_take, Nat.min_eq_left (by omega)], cell_lt (hcell' 0 (by omega)), fun i y hy => ?_⟩)
      rw [List.getElem?_take] at hy
      split at hy
      · have hi : i < ss.length := (List.getElem?_eq_some_iff.1 hy).1
        rw [hcell' i hi, List.getD, hy]; rfl
      · cases hy

set_option maxRecDepth 100000 in
theorem int_open {fuel : Nat} {v : Value} {y : DataW H × List MemPlace} (h : DataW.trod enc Tryz.prog W 0 (fun _ => true) true fuel 3 [v] = some y) : ∃ n, v = .int .i64 n ∧ -9223372036854775808 ≤ n ∧ n ≤ 9223372036854775807 := by
  obtain ⟨n, hcs, -, hwf⟩ := DataW.trod_int Tryz.underlying3 h
  injection hcs with hcs
  refine ⟨n, hcs, ?_⟩
  simp only [Lit.wf, Bool.and_eq_true, decide_eq_true_eq] at hwf
  obtain ⟨h1, h2⟩ := hwf
  have m1 : IntKind.i64.min = -9223372036854775808 := by kernel_rfl
  have m2 : IntKind.i64.max = 9223372036854775807 := by kernel_rfl
  exact ⟨m1 ▸ h1, m2 ▸ h2⟩

set_option maxRecDepth 100000 in
/-- a step that came in. -/
theorem op_open {fuel : Nat} {b o : Nat} {cs : List Value} {x : DataW H × List MemPlace} (hcs : W.cells? 0 ⟨b, o, none⟩ 6 = some cs) (h : DataW.trod enc Tryz.prog W 0 (fun _ => true) true fuel 69 cs = some x) (hw : ∀ n ∈ x.1.weights Tryz.prog 69, n ≤ reachBytes) :
    ∃ r, OpAt W b o r ∧ OpOk W r := by
  obtain ⟨fs, hu, hfs⟩ := op_struct
  obtain ⟨ys, k, -, hx, -, hyl, hf⟩ := DataW.trod_struct hu h
  obtain ⟨-, hlen, hcell⟩ := World.cells?_some hcs
  have hcell' : ∀ j, j < 6 → W.cell? ⟨b, o + j, none⟩ = cs[j]? := fun j hj => by rw [← add_plain]; exact hcell j hj
  match cs, hlen with
  | [v0, v1, v2, v3, v4, v5], _ =>
    have part : ∀ (i : Nat) (t : TypeId) (v : Value), [(3, 0), (3, 1), (3, 2), (3, 3), (9, 4), (28, 5)][i]? = some (t, i) → Tryz.prog.cellsOf t = 1 → ([v0, v1, v2, v3, v4, v5].drop i).take 1 = [v] → ∃ y, ys[i]? = some y ∧ DataW.trod enc Tryz.prog W 0 (fun _ => true) true k t [v] = some y := by
      intro i t v hi hc hv
      obtain ⟨f, hfi, e1, e2⟩ := field_at hfs hi
      have := hf i f hfi
      rw [e1, e2, hc, hv] at this
      have hil : i < ys.length := by rw [hyl]; exact (Array.getElem?_eq_some_iff.1 hfi).1
      exact ⟨ys[i], List.getElem?_eq_getElem hil, by rw [this, List.getElem?_eq_getElem hil]⟩
    obtain ⟨y0, -, g0⟩ := part 0 _ v0 rfl Tryz.rIntCells rfl
    obtain ⟨y1, -, g1⟩ := part 1 _ v1 rfl Tryz.rIntCells rfl
    obtain ⟨y2, -, g2⟩ := part 2 _ v2 rfl Tryz.rIntCells rfl
    obtain ⟨y3, -, g3⟩ := part 3 _ v3 rfl Tryz.rIntCells rfl
    obtain ⟨y4, -, g4⟩ := part 4 _ v4 rfl Tryz.rStrCells rfl
    obtain ⟨y5, e5, g5⟩ := part 5 _ v5 rfl Tryz.txtCells rfl
    obtain ⟨n0, rfl, -⟩ := int_open g0
    obtain ⟨n1, rfl, hn1⟩ := int_open g1
    obtain ⟨n2, rfl, -⟩ := int_open g2
    obtain ⟨n3, rfl, -⟩ := int_open g3
    obtain ⟨s, hs, -, -⟩ := DataW.trod_string Tryz.underlying9 g4
    injection hs with hs
    subst hs
    have hw5 : ∀ n ∈ y5.1.weights Tryz.prog 28, n ≤ reachBytes := by
      intro n hn
      refine hw n ?_
      rw [hx, DataW.weights, hu]
      refine DataW.weights_mem_each (j := 5) (t := 28) (d := y5.1) ?_ (by rw [List.getElem?_map, e5]; rfl) n hn
      obtain ⟨f, hfi, e1, -⟩ := field_at hfs (i := 5) rfl
      rw [List.getElem?_map]
      have : fs.toList[5]? = some f := by simpa using hfi
      rw [this]; simp [e1]
    obtain ⟨xs, ht, hl, hsz⟩ := texts_open g5 hw5
    refine ⟨⟨n0, n1, n2, n3, s, v5, xs⟩, ⟨hcell' 0 (by omega), hcell' 1 (by omega), hcell' 2 (by omega), hcell' 3 (by omega), hcell' 4 (by omega), hcell' 5 (by omega)⟩, hn1, ht, hl, hsz⟩

instance : Inhabited OpR := ⟨⟨0, 0, 0, 0, ByteArray.empty, .slice none 0 0, []⟩⟩
/-- the whole script. -/
theorem script_open {fuel : Nat} {x : Option Addr} {n c : Nat} {d : DataW H} {ps : List MemPlace} (h : DataW.trod enc Tryz.prog W 0 (fun _ => true) true fuel 22 [.slice x n c] = some (d, ps)) (hw : ∀ k ∈ d.weights Tryz.prog 22, k ≤ reachBytes) :
    n = 0 ∨ ∃ (b off : Nat) (ops : List OpR), x = some ⟨b, off, none⟩ ∧ b < W.heap.size ∧ ops.length = n ∧ n * 72 ≤ 140737488351232 ∧ ∀ i r, ops[i]? = some r → OpAt W b (off + i * 6) r ∧ OpOk W r := by
  rcases open_slice Tryz.underlying22 h with ⟨hcs, -⟩ | ⟨a, len, cap, m, k, D, Pl, hcs, -, hl, -, hm, hx, hel⟩
  · injection hcs with hcs
    injection hcs with _ hcs
    exact Or.inl hcs
  · injection hcs with hcs
    injection hcs with e1 e2 e3
    subst e1; subst e2; subst e3
    simp only [if_true] at hm
    subst hm
    rcases Nat.eq_zero_or_pos n with h0 | h0
    · exact Or.inl h0
    · right
      injection hx with hx _
      subst hx
      rw [Tryz.opCells] at hel
      have hwt : (Tryz.prog.underlying 22) = some (.slice 69) := Tryz.underlying22
      obtain ⟨b, off, spot⟩ := a
      have hspot : spot = none := by
        obtain ⟨cs', h1, -⟩ := hel 0 (by omega)
        obtain ⟨-, hlen, hc⟩ := World.cells?_some h1
        have := hc 0 (by omega)
        rw [List.getElem?_eq_getElem (by omega)] at this
        simpa [Addr.add] using World.cell?_spot this
      subst hspot
      have hbytes : n * 72 ≤ reachBytes := by
        have := hw ((((List.range n).map D).length + ((List.range (m - n)).map fun j => D (n + j)).length) * Tryz.prog.bytesOf 69) (by simp [DataW.weights, hwt])
        rw [Tryz.opBytes] at this
        simp only [List.length_map, List.length_range] at this
        exact Nat.le_trans (Nat.mul_le_mul_right 72 (Nat.le_add_right _ _)) this
      have each : ∀ i, i < n → ∃ r, OpAt W b (off + i * 6) r ∧ OpOk W r := by
        intro i hi
        obtain ⟨cs', h1, h2⟩ := hel i (by omega)
        rw [add_plain] at h1
        refine op_open h1 h2 fun q hq => hw q ?_
        rw [DataW.weights, hwt]
        exact List.mem_cons_of_mem _ (List.mem_append.2 (Or.inl (all_mem (List.mem_map.2 ⟨i, List.mem_range.2 hi, rfl⟩) q hq)))
      obtain ⟨R, hR⟩ := choose_lt each
      refine ⟨b, off, (List.range n).map R, rfl, ?_, by simp, hbytes, fun i r hr => ?_⟩
      · exact cell_lt (hR 0 h0).1.1
      · have hi : i < n := by have := (List.getElem?_eq_some_iff.1 hr).1; simpa using this
        rw [List.getElem?_map, List.getElem?_range hi] at hr
        injection hr with hr
        subst hr
        exact hR i hi
end

end Go.Proofs.YtalmoiogbdahcaaGreat
