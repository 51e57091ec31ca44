import Derived.Test.YtalmoiogbdahcaaGreatYLawP
import Derived.ProofKit
import Derived.SizedLaws
import Derived.Deep.Slices
namespace Go.Proofs.YtalmoiogbdahcaaGreat
set_option maxRecDepth 100000
set_option maxHeartbeats 8000000
open Go.ChangeShapes Go.WideShapes Go.ChangeAt Go.RowKit Go.Deep
theorem Tryz.opCells : Tryz.prog.cellsOf 69 = 6 := by kernel_rfl
theorem Tryz.opBytes : Tryz.prog.bytesOf 69 = 72 := by kernel_rfl
theorem Tryz.rIntCells : Tryz.prog.cellsOf 3 = 1 := by kernel_rfl
theorem Tryz.rStrCells : Tryz.prog.cellsOf 9 = 1 := by kernel_rfl
theorem Tryz.rStrBytes : Tryz.prog.bytesOf 9 = 16 := by kernel_rfl
theorem Tryz.txtCells : Tryz.prog.cellsOf 28 = 1 := by kernel_rfl
def fieldsOf : Option TypeDesc -> List (TypeId × Nat)
 | some (.struct fs) => fs.toList.map fun f => (f.type, f.offset)
 | _ => []
theorem Tryz.opFields : fieldsOf (Tryz.prog.underlying 69) = [(3, 0), (3, 1), (3, 2), (3, 3), (9, 4), (28, 5)] := by kernel_rfl
theorem op_struct : ∃ fs : Array Field, Tryz.prog.underlying 69 = some (.struct fs) /\ fs.toList.map (fun f => (f.type, f.offset)) = [(3, 0), (3, 1), (3, 2), (3, 3), (9, 4), (28, 5)] := by
 have h := Tryz.opFields
 unfold fieldsOf at h
 split at h
 ·rename_i fs e; exact ⟨fs, e, h⟩
 ·cases h
theorem field_at {fs : Array Field} {l : List (TypeId × Nat)} (h : fs.toList.map (fun f => (f.type, f.offset)) = l) {i : Nat} {t : TypeId} {o : Nat} (hi : l[i]? = some (t, o)) : ∃ f, fs[i]? = some f /\ f.type = t /\ f.offset = o := by
 rw [← h, List.getElem?_map] at hi
 obtain ⟨f, hf, e⟩ := Option.map_eq_some_iff.1 hi
 injection e with e1 e2
 exact ⟨f, by simpa using hf, e1, e2⟩
theorem all_mem {H : Type} {P : Program} {e : TypeId} : ∀ {l : List (DataW H)} {d : DataW H}, d ∈ l -> ∀ n ∈ d.weights P e, n ∈ DataW.weightsAll P e l := by
 intro l
 induction l with
 | nil => intro d hd; cases hd
 | cons a l ih =>
  intro d hd n hn
  rw [DataW.weightsAll, List.mem_append]
  rcases List.mem_cons.1 hd with rfl | hd
  ·exact Or.inl hn
  ·exact Or.inr (ih hd n hn)
section
variable {H : Type} {enc : TypeId × Value -> H} {W : World}
theorem texts_open {fuel : Nat} {v : Value} {x : DataW H × List MemPlace} (h : DataW.trod enc Tryz.prog W 0 (fun _ => true) true fuel 28 [v] = some x) (hw : ∀ n ∈ x.1.weights Tryz.prog 28, n <= reachBytes) :
  ∃ xs, TxtAt W v xs /\ xs.length <= 8796093022208 /\ ∀ y ∈ xs, y.size <= 140737488355328 := by
 rcases open_strings Tryz.underlying28 Tryz.underlying9 Tryz.rStrCells h with ⟨hcs, hx⟩ | ⟨a, len, cap, ss, hcs, _, hl, hm, hz, hx, hcell, hsz⟩
 ·injection hcs with hcs
  exact ⟨[], Or.inl ⟨hcs, rfl⟩, Nat.zero_le _, fun y hy => absurd hy List.not_mem_nil⟩
 ·injection hcs with hcs
  subst hcs
  simp only [if_true] at hz
  subst hx
  have hwt : (Tryz.prog.underlying 28) = some (.slice 9) := Tryz.underlying28
  have hlen : len * 16 <= reachBytes := by
   have := hw (((strs (H := H) (ss.take len)).length + (strs (H := H) (ss.drop len)).length) * Tryz.prog.bytesOf 9) (by simp [DataW.weights, hwt])
   rw [Tryz.rStrBytes] at this
   simp only [strs, List.length_map, List.length_take, List.length_drop] at this
   omega
  have hstr : ∀ y ∈ ss.take len, y.size <= reachBytes := by
   intro y hy
   have := hw y.data.toList.length (by
    rw [DataW.weights, hwt]
    refine List.mem_cons_of_mem _ (List.mem_append.2 (Or.inl ?_))
    refine all_mem (d := .lit (.string y.data.toList)) ?_ _ (by simp [DataW.weights])
    exact List.mem_map.2 ⟨y, hy, rfl⟩)
   simpa using this
  unfold reachBytes at hlen hstr
  refine ⟨ss.take len, ?_, by rw [List.length_take]; omega, fun y hy => Nat.le_trans (hstr y hy) (by omega)⟩
  by_cases hc0 : cap = 0
  ·have hl0 : len = 0 := by omega
   subst hc0; subst hl0
   exact Or.inr (Or.inl ⟨a, rfl, rfl⟩)
  ·obtain ⟨b, off, spot⟩ := a
   have hspot : spot = none := by simpa [Addr.add] using World.cell?_spot (hcell 0 (by omega))
   subst hspot
   have hcell' : ∀ j, j < ss.length -> W.cell? ⟨b, off + j, none⟩ = some (.string (ss.getD j ByteArray.empty)) := fun j hj => by rw [← add_plain]; exact hcell j hj
   refine Or.inr (Or.inr ⟨b, off, cap, by rw [List.length_take, Nat.min_eq_left (by omega)], cell_lt (hcell' 0 (by omega)), fun i y hy => ?_⟩)
   rw [List.getElem?_take] at hy
   split at hy
   ·have hi : i < ss.length := (List.getElem?_eq_some_iff.1 hy).1
    rw [hcell' i hi, List.getD, hy]; rfl
   ·cases hy
theorem int_open {fuel : Nat} {v : Value} {y : DataW H × List MemPlace} (h : DataW.trod enc Tryz.prog W 0 (fun _ => true) true fuel 3 [v] = some y) : ∃ n, v = .int .i64 n /\ -9223372036854775808 <= n /\ n <= 9223372036854775807 := by
 obtain ⟨n, hcs, -, hwf⟩ := DataW.trod_int Tryz.underlying3 h
 injection hcs with hcs
 refine ⟨n, hcs, ?_⟩
 simp only [Lit.wf, Bool.and_eq_true, decide_eq_true_eq] at hwf
 obtain ⟨h1, h2⟩ := hwf
 have m1 : IntKind.i64.min = -9223372036854775808 := by kernel_rfl
 have m2 : IntKind.i64.max = 9223372036854775807 := by kernel_rfl
 exact ⟨m1 ▸ h1, m2 ▸ h2⟩
instance : Inhabited OpR := ⟨⟨0, 0, 0, 0, ByteArray.empty, .slice none 0 0, []⟩⟩
end
end Go.Proofs.YtalmoiogbdahcaaGreat
