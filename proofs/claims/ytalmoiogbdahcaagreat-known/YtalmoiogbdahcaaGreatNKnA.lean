import Derived.Test.YtalmoiogbdahcaaGreatNDskS
import Derived.Test.YtalmoiogbdahcaaGreatTAskA
import Derived.Test.YtalmoiogbdahcaaGreatPKrlB
import Derived.Test.YtalmoiogbdahcaaGreatPKepB
import Derived.Test.YtalmoiogbdahcaaGreatYSrtB
import Derived.Test.YtalmoiogbdahcaaGreatTGhG
namespace Go.Proofs.YtalmoiogbdahcaaGreat
set_option maxRecDepth 100000
set_option maxHeartbeats 8000000
open Go.RowKit Go.Shelf
set_option maxRecDepth 100000
def aBq : ByteArray := ⟨#[97]⟩
def bBq : ByteArray := ⟨#[98]⟩
def xBq : ByteArray := ⟨#[120]⟩
def yBq : ByteArray := ⟨#[121]⟩
def n1Bq : ByteArray := ⟨#[49]⟩
def n2Bq : ByteArray := ⟨#[50]⟩
def editBq : ByteArray := ⟨#[101, 100, 105, 116, 111, 114]⟩
def nrules : List ByteArray := [⟨#[103, 114, 111, 117, 112, 35, 109, 101, 109, 98, 101, 114, 61, 116, 104, 105, 115]⟩, ⟨#[100, 111, 99, 35, 111, 119, 110, 101, 114, 61, 116, 104, 105, 115]⟩, ⟨#[100, 111, 99, 35, 114, 101, 97, 100, 101, 114, 61, 116, 104, 105, 115, 124, 111, 119, 110, 101, 114, 124, 112, 97, 114, 101, 110, 116, 45, 62, 114, 101, 97, 100, 101, 114]⟩, ⟨#[100, 111, 99, 35, 112, 97, 114, 101, 110, 116, 61, 116, 104, 105, 115]⟩, ⟨#[100, 111, 99, 35, 101, 100, 105, 116, 111, 114, 61, 114, 101, 97, 100, 101, 114, 38, 116, 104, 105, 115]⟩]
def nb0 : List ByteArray := [⟨#[43, 103, 114, 111, 117, 112, 58, 97, 35, 109, 101, 109, 98, 101, 114, 64, 103, 114, 111, 117, 112, 58, 98, 35, 109, 101, 109, 98, 101, 114]⟩, ⟨#[43, 103, 114, 111, 117, 112, 58, 98, 35, 109, 101, 109, 98, 101, 114, 64, 103, 114, 111, 117, 112, 58, 97, 35, 109, 101, 109, 98, 101, 114]⟩, ⟨#[43, 103, 114, 111, 117, 112, 58, 98, 35, 109, 101, 109, 98, 101, 114, 64, 117, 115, 101, 114, 58, 120]⟩, ⟨#[43, 100, 111, 99, 58, 49, 35, 114, 101, 97, 100, 101, 114, 64, 103, 114, 111, 117, 112, 58, 97, 35, 109, 101, 109, 98, 101, 114]⟩, ⟨#[43, 100, 111, 99, 58, 50, 35, 112, 97, 114, 101, 110, 116, 64, 100, 111, 99, 58, 49]⟩, ⟨#[43, 100, 111, 99, 58, 50, 35, 111, 119, 110, 101, 114, 64, 117, 115, 101, 114, 58, 121]⟩]
def nnow : List ByteArray := [⟨#[100, 111, 99, 58, 49, 35, 114, 101, 97, 100, 101, 114, 64, 103, 114, 111, 117, 112, 58, 97, 35, 109, 101, 109, 98, 101, 114]⟩, ⟨#[100, 111, 99, 58, 50, 35, 111, 119, 110, 101, 114, 64, 117, 115, 101, 114, 58, 121]⟩, ⟨#[100, 111, 99, 58, 50, 35, 112, 97, 114, 101, 110, 116, 64, 100, 111, 99, 58, 49]⟩, ⟨#[103, 114, 111, 117, 112, 58, 97, 35, 109, 101, 109, 98, 101, 114, 64, 103, 114, 111, 117, 112, 58, 98, 35, 109, 101, 109, 98, 101, 114]⟩, ⟨#[103, 114, 111, 117, 112, 58, 98, 35, 109, 101, 109, 98, 101, 114, 64, 103, 114, 111, 117, 112, 58, 97, 35, 109, 101, 109, 98, 101, 114]⟩, ⟨#[103, 114, 111, 117, 112, 58, 98, 35, 109, 101, 109, 98, 101, 114, 64, 117, 115, 101, 114, 58, 120]⟩]
def nb1 : List ByteArray := [⟨#[43, 100, 111, 99, 58, 50, 35, 101, 100, 105, 116, 111, 114, 64, 117, 115, 101, 114, 58, 120]⟩]
def nnow2 : List ByteArray := [⟨#[100, 111, 99, 58, 49, 35, 114, 101, 97, 100, 101, 114, 64, 103, 114, 111, 117, 112, 58, 97, 35, 109, 101, 109, 98, 101, 114]⟩, ⟨#[100, 111, 99, 58, 50, 35, 101, 100, 105, 116, 111, 114, 64, 117, 115, 101, 114, 58, 120]⟩, ⟨#[100, 111, 99, 58, 50, 35, 111, 119, 110, 101, 114, 64, 117, 115, 101, 114, 58, 121]⟩, ⟨#[100, 111, 99, 58, 50, 35, 112, 97, 114, 101, 110, 116, 64, 100, 111, 99, 58, 49]⟩, ⟨#[103, 114, 111, 117, 112, 58, 97, 35, 109, 101, 109, 98, 101, 114, 64, 103, 114, 111, 117, 112, 58, 98, 35, 109, 101, 109, 98, 101, 114]⟩, ⟨#[103, 114, 111, 117, 112, 58, 98, 35, 109, 101, 109, 98, 101, 114, 64, 103, 114, 111, 117, 112, 58, 97, 35, 109, 101, 109, 98, 101, 114]⟩, ⟨#[103, 114, 111, 117, 112, 58, 98, 35, 109, 101, 109, 98, 101, 114, 64, 117, 115, 101, 114, 58, 120]⟩]
theorem nrules_ok : openErr nrules = none := by decide +kernel
theorem nrules_len : nrules.length = 5 := rfl
theorem nb0_done : batchL (ruleOfs nrules) [] 0 nb0 = .inr nnow := by decide +kernel
theorem nb1_done : batchL (ruleOfs nrules) nnow 0 nb1 = .inr nnow2 := by decide +kernel
theorem nnow_sorted : Sorted nnow := by unfold Sorted nnow; decide +kernel
theorem nnow2_sorted : Sorted nnow2 := by unfold Sorted nnow2; decide +kernel
def nqg : ByteArray := ⟨#[103, 114, 111, 117, 112, 58, 97, 35, 109, 101, 109, 98, 101, 114]⟩
theorem nqg_ok : queOk nqg = true /\ queC nqg = false /\ hasR nrules (queX nqg) = true /\ queX nqg = ⟨groupB, aBq, memberB⟩ := by decide +kernel
def nqr : ByteArray := ⟨#[100, 111, 99, 58, 50, 35, 114, 101, 97, 100, 101, 114]⟩
theorem nqr_ok : queOk nqr = true /\ queC nqr = false /\ hasR nrules (queX nqr) = true /\ queX nqr = ⟨docB, n2Bq, readerB⟩ := by decide +kernel
def nqp : ByteArray := ⟨#[100, 111, 99, 58, 50, 35, 112, 97, 114, 101, 110, 116]⟩
theorem nqp_ok : queOk nqp = true /\ queC nqp = false /\ hasR nrules (queX nqp) = true /\ queX nqp = ⟨docB, n2Bq, parentB⟩ := by decide +kernel
def nqe : ByteArray := ⟨#[100, 111, 99, 58, 50, 35, 101, 100, 105, 116, 111, 114]⟩
theorem nqe_ok : queOk nqe = true /\ queC nqe = false /\ hasR nrules (queX nqe) = true /\ queX nqe = ⟨docB, n2Bq, editBq⟩ := by decide +kernel
def nqc : ByteArray := ⟨#[100, 111, 99, 58, 50, 35, 114, 101, 97, 100, 101, 114, 64, 103, 114, 111, 117, 112, 58, 97]⟩
theorem nqc_ok : queOk nqc = true /\ queC nqc = true /\ hasR nrules (queX nqc) = true /\ queX nqc = ⟨docB, n2Bq, readerB⟩ := by decide +kernel
def nqu : ByteArray := ⟨#[100, 111, 99, 58, 50, 35, 114, 101, 97, 100, 101, 114, 64, 117, 115, 101, 114, 58, 120]⟩
theorem nqu_ok : queOk nqu = true /\ queC nqu = true /\ hasR nrules (queX nqu) = true /\ queX nqu = ⟨docB, n2Bq, readerB⟩ := by decide +kernel
theorem nqc_y : queY nqc = ⟨groupB, aBq, noneB⟩ := by decide +kernel
theorem nqu_y : queY nqu = ⟨userB, xBq, noneB⟩ := by decide +kernel
theorem cost_list {xs now : List ByteArray} {x : Nod} (l : List Nod) (hn : l.Nodup) (hx : x ∈ l) (hs : ∀ y ∈ l, ∀ z ∈ namesN (tsOf now) (ruleN xs) y, z ∈ l) (hr : ∀ y ∈ l, Rch (tsOf now) (ruleN xs) x y) : CostN xs now x l.length :=
 ⟨l, hn, fun y => ⟨hr y, fun h => Rch.in (S := fun y => y ∈ l) hs hx h⟩, rfl⟩
def ngl : List Nod := [⟨groupB, aBq, memberB⟩, ⟨groupB, bBq, memberB⟩]
def nrl : List Nod := [⟨docB, n2Bq, readerB⟩, ⟨docB, n2Bq, ownerB⟩, ⟨docB, n1Bq, readerB⟩, ⟨docB, n1Bq, ownerB⟩, ⟨groupB, aBq, memberB⟩, ⟨groupB, bBq, memberB⟩]
theorem ngl_shut : ∀ y ∈ ngl, ∀ z ∈ namesN (tsOf nnow) (ruleN nrules) y, z ∈ ngl := by decide +kernel
theorem nrl_shut : ∀ y ∈ nrl, ∀ z ∈ namesN (tsOf nnow) (ruleN nrules) y, z ∈ nrl := by decide +kernel
theorem ng_cost : CostN nrules nnow ⟨groupB, aBq, memberB⟩ 2 := by
 refine cost_list ngl (by decide +kernel) (by decide +kernel) ngl_shut fun y hy => ?_
 have h1 : Rch (tsOf nnow) (ruleN nrules) ⟨groupB, aBq, memberB⟩ ⟨groupB, bBq, memberB⟩ := Rch.on Rch.here (by decide +kernel)
 unfold ngl at hy
 simp only [List.mem_cons, List.not_mem_nil, or_false] at hy
 rcases hy with rfl | rfl
 ·exact Rch.here
 ·exact h1
theorem nr_cost : CostN nrules nnow ⟨docB, n2Bq, readerB⟩ 6 := by
 refine cost_list nrl (by decide +kernel) (by decide +kernel) nrl_shut fun y hy => ?_
 have h1 : Rch (tsOf nnow) (ruleN nrules) ⟨docB, n2Bq, readerB⟩ ⟨docB, n2Bq, ownerB⟩ := Rch.on Rch.here (by decide +kernel)
 have h2 : Rch (tsOf nnow) (ruleN nrules) ⟨docB, n2Bq, readerB⟩ ⟨docB, n1Bq, readerB⟩ := Rch.on Rch.here (by decide +kernel)
 have h3 : Rch (tsOf nnow) (ruleN nrules) ⟨docB, n2Bq, readerB⟩ ⟨docB, n1Bq, ownerB⟩ := Rch.on h2 (by decide +kernel)
 have h4 : Rch (tsOf nnow) (ruleN nrules) ⟨docB, n2Bq, readerB⟩ ⟨groupB, aBq, memberB⟩ := Rch.on h2 (by decide +kernel)
 have h5 : Rch (tsOf nnow) (ruleN nrules) ⟨docB, n2Bq, readerB⟩ ⟨groupB, bBq, memberB⟩ := Rch.on h4 (by decide +kernel)
 unfold nrl at hy
 simp only [List.mem_cons, List.not_mem_nil, or_false] at hy
 rcases hy with rfl | rfl | rfl | rfl | rfl | rfl
 ·exact Rch.here
 ·exact h1
 ·exact h2
 ·exact h3
 ·exact h4
 ·exact h5
set_option maxRecDepth 100000
mutual
def toldWB (ts : List (Nod × Nod)) (P : Nod -> Bool) (x : Nod) : WayT -> Bool
 | .mk is over rel parts => if is = 3 then toldOB ts P x parts else if is = 4 then toldAB ts P x parts else (namedW ts x (.mk is over rel parts)).any P
def toldOB (ts : List (Nod × Nod)) (P : Nod -> Bool) (x : Nod) : List WayT -> Bool
 | [] => false
 | t :: l => toldWB ts P x t || toldOB ts P x l
def toldAB (ts : List (Nod × Nod)) (P : Nod -> Bool) (x : Nod) : List WayT -> Bool
 | [] => true
 | t :: l => toldWB ts P x t && toldAB ts P x l
end
mutual
theorem toldWB_iff {ts : List (Nod × Nod)} {P : Nod -> Bool} {x : Nod} : (t : WayT) -> (toldWB ts P x t = true ↔ toldW ts (fun y => P y = true) x t)
 | .mk is over rel parts => by
  rw [toldWB, toldW]
  split
  ·exact toldOB_iff parts
  ·split
   ·exact toldAB_iff parts
   ·rw [List.any_eq_true]
theorem toldOB_iff {ts : List (Nod × Nod)} {P : Nod -> Bool} {x : Nod} : (l : List WayT) -> (toldOB ts P x l = true ↔ toldO ts (fun y => P y = true) x l)
 | [] => by rw [toldOB, toldO]; exact ⟨(fun e => by cases e), False.elim⟩
 | t :: l => by rw [toldOB, toldO, Bool.or_eq_true, toldWB_iff t, toldOB_iff l]
theorem toldAB_iff {ts : List (Nod × Nod)} {P : Nod -> Bool} {x : Nod} : (l : List WayT) -> (toldAB ts P x l = true ↔ toldA ts (fun y => P y = true) x l)
 | [] => by rw [toldAB, toldA]; exact ⟨fun _ => trivial, fun _ => rfl⟩
 | t :: l => by rw [toldAB, toldA, Bool.and_eq_true, toldWB_iff t, toldAB_iff l]
end
def inUB (u : Nod) (P : Nod -> Bool) (y : Nod) : Bool := if y.isTh then decide (y = u) else P y
theorem inUB_iff {u y : Nod} {P : Nod -> Bool} : inUB u P y = true ↔ inU u (fun z => P z = true) y := by
 unfold inUB inU
 split
 ·exact ⟨of_decide_eq_true, decide_eq_true⟩
 ·exact Iff.rfl
theorem std_by {ts : List (Nod × Nod)} {rule : Nod -> WayT} {u x : Nod} (S : List Nod) (hS : ∀ y ∈ S, Std ts rule u y) (h : toldWB ts (inUB u fun y => decide (y ∈ S)) x (rule x) = true) : Std ts rule u x := by
 refine Std.step (toldW_mono _ (fun y _ hy => ?_) ((toldWB_iff _).1 h))
 have h1 : inU u (fun z => decide (z ∈ S) = true) y := inUB_iff.1 hy
 exact inU_mono (fun _ e => hS y (of_decide_eq_true e)) h1
theorem std_not {ts : List (Nod × Nod)} {rule : Nod -> WayT} {u : Nod} (L : List Nod) (h : ∀ y ∈ L, toldWB ts (inUB u fun z => decide (z ∉ L)) y (rule y) = false) : ∀ y ∈ L, ¬ Std ts rule u y := by
 intro y hy hs
 refine hs (fun z => z ∉ L) (fun z hz hm => ?_) hy
 have h1 := h z hm
 have h2 : toldWB ts (inUB u fun z => decide (z ∉ L)) z (rule z) = true := by
  refine (toldWB_iff _).2 (toldW_mono _ (fun y _ hy => ?_) hz)
  exact inUB_iff.2 (inU_mono (fun _ e => decide_eq_true e) hy)
 rw [h1] at h2; cases h2
theorem who_of {now xs : List ByteArray} {x : Nod} (C : List Nod) (hC : ∀ t ∈ tsOf now, t.2.isTh = true -> t.2 ∈ C) (Y : List Nod) (hY : ∀ u ∈ Y, u.isTh = true /\ (∃ t ∈ tsOf now, t.2 = u) /\ Std (tsOf now) (ruleN xs) u x) (hN : ∀ u ∈ C, u ∉ Y -> ¬ Std (tsOf now) (ruleN xs) u x) (zs : List ByteArray) (hz : Y.map thT = zs) : ∀ z, z ∈ zs ↔ ∃ u, InN (tsOf now) xs u x /\ thT u = z := by
 intro z
 rw [← hz, List.mem_map]
 constructor
 ·rintro ⟨u, hu, rfl⟩
  exact ⟨u, hY u hu, rfl⟩
 ·rintro ⟨u, ⟨h1, ⟨t, ht, rfl⟩, h3⟩, rfl⟩
  refine ⟨t.2, ?_, rfl⟩
  by_cases e : t.2 ∈ Y
  ·exact e
  ·exact absurd h3 (hN t.2 (hC t ht h1) e)
def nuC : List Nod := [⟨userB, xBq, noneB⟩, ⟨userB, yBq, noneB⟩, ⟨docB, n1Bq, noneB⟩]
theorem nuC_all : ∀ t ∈ tsOf nnow, t.2.isTh = true -> t.2 ∈ nuC := by decide +kernel
theorem nuC_all2 : ∀ t ∈ tsOf nnow2, t.2.isTh = true -> t.2 ∈ nuC := by decide +kernel
theorem nx_b : Std (tsOf nnow) (ruleN nrules) ⟨userB, xBq, noneB⟩ ⟨groupB, bBq, memberB⟩ := by
 refine std_by [] (fun y hy => ?_) (by decide +kernel)
 cases hy
theorem nx_a : Std (tsOf nnow) (ruleN nrules) ⟨userB, xBq, noneB⟩ ⟨groupB, aBq, memberB⟩ := by
 refine std_by [⟨groupB, bBq, memberB⟩] (fun y hy => ?_) (by decide +kernel)
 rw [List.mem_singleton] at hy
 subst hy
 exact nx_b
theorem nx_1 : Std (tsOf nnow) (ruleN nrules) ⟨userB, xBq, noneB⟩ ⟨docB, n1Bq, readerB⟩ := by
 refine std_by [⟨groupB, aBq, memberB⟩] (fun y hy => ?_) (by decide +kernel)
 rw [List.mem_singleton] at hy
 subst hy
 exact nx_a
theorem nx_r : Std (tsOf nnow) (ruleN nrules) ⟨userB, xBq, noneB⟩ ⟨docB, n2Bq, readerB⟩ := by
 refine std_by [⟨docB, n1Bq, readerB⟩] (fun y hy => ?_) (by decide +kernel)
 rw [List.mem_singleton] at hy
 subst hy
 exact nx_1
theorem nx_b2 : Std (tsOf nnow2) (ruleN nrules) ⟨userB, xBq, noneB⟩ ⟨groupB, bBq, memberB⟩ := by
 refine std_by [] (fun y hy => ?_) (by decide +kernel)
 cases hy
theorem nx_a2 : Std (tsOf nnow2) (ruleN nrules) ⟨userB, xBq, noneB⟩ ⟨groupB, aBq, memberB⟩ := by
 refine std_by [⟨groupB, bBq, memberB⟩] (fun y hy => ?_) (by decide +kernel)
 rw [List.mem_singleton] at hy
 subst hy
 exact nx_b2
theorem nx_12 : Std (tsOf nnow2) (ruleN nrules) ⟨userB, xBq, noneB⟩ ⟨docB, n1Bq, readerB⟩ := by
 refine std_by [⟨groupB, aBq, memberB⟩] (fun y hy => ?_) (by decide +kernel)
 rw [List.mem_singleton] at hy
 subst hy
 exact nx_a2
theorem nx_r2 : Std (tsOf nnow2) (ruleN nrules) ⟨userB, xBq, noneB⟩ ⟨docB, n2Bq, readerB⟩ := by
 refine std_by [⟨docB, n1Bq, readerB⟩] (fun y hy => ?_) (by decide +kernel)
 rw [List.mem_singleton] at hy
 subst hy
 exact nx_12
theorem ny_o : Std (tsOf nnow) (ruleN nrules) ⟨userB, yBq, noneB⟩ ⟨docB, n2Bq, ownerB⟩ := by
 refine std_by [] (fun y hy => ?_) (by decide +kernel)
 cases hy
theorem ny_r : Std (tsOf nnow) (ruleN nrules) ⟨userB, yBq, noneB⟩ ⟨docB, n2Bq, readerB⟩ := by
 refine std_by [⟨docB, n2Bq, ownerB⟩] (fun y hy => ?_) (by decide +kernel)
 rw [List.mem_singleton] at hy
 subst hy
 exact ny_o
theorem nd_p : Std (tsOf nnow) (ruleN nrules) ⟨docB, n1Bq, noneB⟩ ⟨docB, n2Bq, parentB⟩ := by
 refine std_by [] (fun y hy => ?_) (by decide +kernel)
 cases hy
theorem nx_e2 : Std (tsOf nnow2) (ruleN nrules) ⟨userB, xBq, noneB⟩ ⟨docB, n2Bq, editBq⟩ := by
 refine std_by [⟨docB, n2Bq, readerB⟩] (fun y hy => ?_) (by decide +kernel)
 rw [List.mem_singleton] at hy
 subst hy
 exact nx_r2
theorem ny_a : ¬ Std (tsOf nnow) (ruleN nrules) ⟨userB, yBq, noneB⟩ ⟨groupB, aBq, memberB⟩ := std_not [⟨groupB, aBq, memberB⟩, ⟨groupB, bBq, memberB⟩] (by decide +kernel) _ (by decide +kernel)
theorem nd_a : ¬ Std (tsOf nnow) (ruleN nrules) ⟨docB, n1Bq, noneB⟩ ⟨groupB, aBq, memberB⟩ := std_not [⟨groupB, aBq, memberB⟩, ⟨groupB, bBq, memberB⟩] (by decide +kernel) _ (by decide +kernel)
theorem nd_r : ¬ Std (tsOf nnow) (ruleN nrules) ⟨docB, n1Bq, noneB⟩ ⟨docB, n2Bq, readerB⟩ := std_not [⟨groupB, aBq, memberB⟩, ⟨groupB, bBq, memberB⟩, ⟨docB, n1Bq, readerB⟩, ⟨docB, n1Bq, ownerB⟩, ⟨docB, n2Bq, ownerB⟩, ⟨docB, n2Bq, readerB⟩] (by decide +kernel) _ (by decide +kernel)
theorem nx_p : ¬ Std (tsOf nnow) (ruleN nrules) ⟨userB, xBq, noneB⟩ ⟨docB, n2Bq, parentB⟩ := std_not [⟨docB, n2Bq, parentB⟩] (by decide +kernel) _ (by decide +kernel)
theorem ny_p : ¬ Std (tsOf nnow) (ruleN nrules) ⟨userB, yBq, noneB⟩ ⟨docB, n2Bq, parentB⟩ := std_not [⟨docB, n2Bq, parentB⟩] (by decide +kernel) _ (by decide +kernel)
theorem nx_e : ¬ Std (tsOf nnow) (ruleN nrules) ⟨userB, xBq, noneB⟩ ⟨docB, n2Bq, editBq⟩ := std_not [⟨docB, n2Bq, editBq⟩] (by decide +kernel) _ (by decide +kernel)
theorem ny_e : ¬ Std (tsOf nnow) (ruleN nrules) ⟨userB, yBq, noneB⟩ ⟨docB, n2Bq, editBq⟩ := std_not [⟨docB, n2Bq, editBq⟩] (by decide +kernel) _ (by decide +kernel)
theorem nd_e : ¬ Std (tsOf nnow) (ruleN nrules) ⟨docB, n1Bq, noneB⟩ ⟨docB, n2Bq, editBq⟩ := std_not [⟨docB, n2Bq, editBq⟩] (by decide +kernel) _ (by decide +kernel)
theorem ny_e2 : ¬ Std (tsOf nnow2) (ruleN nrules) ⟨userB, yBq, noneB⟩ ⟨docB, n2Bq, editBq⟩ := std_not [⟨docB, n2Bq, editBq⟩] (by decide +kernel) _ (by decide +kernel)
theorem nd_e2 : ¬ Std (tsOf nnow2) (ruleN nrules) ⟨docB, n1Bq, noneB⟩ ⟨docB, n2Bq, editBq⟩ := std_not [⟨docB, n2Bq, editBq⟩] (by decide +kernel) _ (by decide +kernel)
theorem nw_g : ∀ z, z ∈ ([⟨#[117, 115, 101, 114, 58, 120]⟩] : List ByteArray) ↔ ∃ u, InN (tsOf nnow) nrules u ⟨groupB, aBq, memberB⟩ /\ thT u = z := by
 refine who_of nuC nuC_all [⟨userB, xBq, noneB⟩] (fun u hu => ?_) (fun u hu hn => ?_) _ (by decide +kernel)
 ·simp only [List.mem_cons, List.not_mem_nil, or_false] at hu
  rcases hu with rfl
  ·exact ⟨by decide +kernel, by decide +kernel, nx_a⟩
 ·unfold nuC at hu
  simp only [List.mem_cons, List.not_mem_nil, or_false] at hu
  rcases hu with rfl | rfl | rfl
  ·exact absurd (by simp) hn
  ·exact ny_a
  ·exact nd_a
theorem nw_r : ∀ z, z ∈ ([⟨#[117, 115, 101, 114, 58, 120]⟩, ⟨#[117, 115, 101, 114, 58, 121]⟩] : List ByteArray) ↔ ∃ u, InN (tsOf nnow) nrules u ⟨docB, n2Bq, readerB⟩ /\ thT u = z := by
 refine who_of nuC nuC_all [⟨userB, xBq, noneB⟩, ⟨userB, yBq, noneB⟩] (fun u hu => ?_) (fun u hu hn => ?_) _ (by decide +kernel)
 ·simp only [List.mem_cons, List.not_mem_nil, or_false] at hu
  rcases hu with rfl | rfl
  ·exact ⟨by decide +kernel, by decide +kernel, nx_r⟩
  ·exact ⟨by decide +kernel, by decide +kernel, ny_r⟩
 ·unfold nuC at hu
  simp only [List.mem_cons, List.not_mem_nil, or_false] at hu
  rcases hu with rfl | rfl | rfl
  ·exact absurd (by simp) hn
  ·exact absurd (by simp) hn
  ·exact nd_r
theorem nw_p : ∀ z, z ∈ ([⟨#[100, 111, 99, 58, 49]⟩] : List ByteArray) ↔ ∃ u, InN (tsOf nnow) nrules u ⟨docB, n2Bq, parentB⟩ /\ thT u = z := by
 refine who_of nuC nuC_all [⟨docB, n1Bq, noneB⟩] (fun u hu => ?_) (fun u hu hn => ?_) _ (by decide +kernel)
 ·simp only [List.mem_cons, List.not_mem_nil, or_false] at hu
  rcases hu with rfl
  ·exact ⟨by decide +kernel, by decide +kernel, nd_p⟩
 ·unfold nuC at hu
  simp only [List.mem_cons, List.not_mem_nil, or_false] at hu
  rcases hu with rfl | rfl | rfl
  ·exact nx_p
  ·exact ny_p
  ·exact absurd (by simp) hn
theorem nw_e : ∀ z, z ∈ ([] : List ByteArray) ↔ ∃ u, InN (tsOf nnow) nrules u ⟨docB, n2Bq, editBq⟩ /\ thT u = z := by
 refine who_of nuC nuC_all [] (fun u hu => ?_) (fun u hu hn => ?_) _ (by decide +kernel)
 ·cases hu
 ·unfold nuC at hu
  simp only [List.mem_cons, List.not_mem_nil, or_false] at hu
  rcases hu with rfl | rfl | rfl
  ·exact nx_e
  ·exact ny_e
  ·exact nd_e
theorem nw_e2 : ∀ z, z ∈ ([⟨#[117, 115, 101, 114, 58, 120]⟩] : List ByteArray) ↔ ∃ u, InN (tsOf nnow2) nrules u ⟨docB, n2Bq, editBq⟩ /\ thT u = z := by
 refine who_of nuC nuC_all2 [⟨userB, xBq, noneB⟩] (fun u hu => ?_) (fun u hu hn => ?_) _ (by decide +kernel)
 ·simp only [List.mem_cons, List.not_mem_nil, or_false] at hu
  rcases hu with rfl
  ·exact ⟨by decide +kernel, by decide +kernel, nx_e2⟩
 ·unfold nuC at hu
  simp only [List.mem_cons, List.not_mem_nil, or_false] at hu
  rcases hu with rfl | rfl | rfl
  ·exact absurd (by simp) hn
  ·exact ny_e2
  ·exact nd_e2
theorem nchk_no : ¬ ∃ u, InN (tsOf nnow) nrules u ⟨docB, n2Bq, readerB⟩ /\ thT u = thT ⟨groupB, aBq, noneB⟩ := by
 intro h
 have h1 := (nw_r _).2 h
 simp only [List.mem_cons, List.not_mem_nil, or_false] at h1
 rcases h1 with e | e
 ·exact absurd e (by decide +kernel)
 ·exact absurd e (by decide +kernel)
theorem nchk_yes : ∃ u, InN (tsOf nnow) nrules u ⟨docB, n2Bq, readerB⟩ /\ thT u = thT ⟨userB, xBq, noneB⟩ := ⟨_, ⟨by decide +kernel, by decide +kernel, nx_r⟩, rfl⟩
open Go.RowKit Go.Shelf Go.MuLone
def calmQ (Q : Exit -> Act -> World -> Prop) (e : Exit) (a : Act) (w : World) : Prop := match e with
 | .panic _ => False
 | e => Q e a w
theorem wp_calm {P : Program} {c : Code} {Q : Exit -> Act -> World -> Prop} {a : Act} {w : World} (h : Code.wp P c (calmQ Q) a w) : Code.wp P c Q a w :=
 Code.wp_mono (fun e a w hq => by
  cases e with
  | panic c => exact (hq : False).elim
  | normal => exact hq
  | exit id => exact hq
  | goto l => exact hq
  | ret => exact hq
  | outgrown => exact hq) h
theorem calm_normal {Q : Exit -> Act -> World -> Prop} {a : Act} {w : World} (h : Q .normal a w) : calmQ Q .normal a w := h
def tkOf (now : List ByteArray) (s : ByteArray) (bud til : Int) : Tk := ⟨queX s, queY s, now, bud, til⟩
theorem askE_zero {xs : List ByteArray} {s : ByteArray} (h : askE xs s = 0) : queOk s = true /\ hasR xs (queX s) = true := by
 have hok : queOk s = true := by
  cases e : queOk s
  ·have : askE xs s = 4 := if_pos e
   rw [h] at this; cases this
  ·rfl
 refine ⟨hok, ?_⟩
 cases e : hasR xs (queX s)
 ·have : askE xs s = 5 := by unfold askE; rw [hok, e]; rfl
  rw [h] at this; cases this
 ·rfl
theorem sub_chain (HN : Hid NodeC) {w : World} {B gb : Nat} {g : Pg} {m : List (Value × Value)} {lo : Nat} {xs now : List ByteArray} {R Q : Nat -> Prop} {D : Dk} (h : KD w B gb g m lo xs now R Q D) {s : ByteArray} (hs : s.size <= maxLen) (he : askE xs s = 0) {bud til : Int} (hb1 : 1 <= bud) (hb9 : bud <= 1000000000) (ht0 : 0 <= til) (ht9 : til <= 1000000000) (hfu : D.rs.length < 30) {w5 : World} (hb : Below w.heap.size (w.setCell ⟨gb, 0, none⟩ (.int .i32 1)) w5) {db : Nat} (hdb : g.dk = .pointer (some ⟨db, 0, none⟩)) :
  Calls Tryz.prog 61 #[.agg #[.string (queX s).k, .string (queX s).n, .string (queX s).r, .string (queY s).k, .string (queY s).n, .string (queY s).r]] w5 fun e w6 => e = .returned (.agg #[.string (queX s).k, .string (queX s).n, .string (queX s).r, .string (queY s).k, .string (queY s).n, .string (queY s).r]) /\ w6.cell? ⟨gb, 5, none⟩ = some (.pointer (some ⟨db, 0, none⟩)) /\
   Hid (Calls Tryz.prog 60 #[.pointer (some ⟨gb, 0, none⟩), .agg #[.string (queX s).k, .string (queX s).n, .string (queX s).r, .string (queY s).k, .string (queY s).n, .string (queY s).r], .int .i64 bud, .int .i64 til] w6 fun e w7 => ∃ wkb, e = .returned (.agg #[.string (queX s).k, .string (queX s).n, .string (queX s).r, .string (queY s).k, .string (queY s).n, .string (queY s).r, .pointer (some ⟨wkb, 0, none⟩), .int .i64 bud, .int .i64 til]) /\ w7.cell? ⟨gb, 5, none⟩ = some (.pointer (some ⟨db, 0, none⟩)) /\
    Hid (Calls Tryz.prog 59 #[.pointer (some ⟨db, 0, none⟩), .agg #[.string (queX s).k, .string (queX s).n, .string (queX s).r, .string (queY s).k, .string (queY s).n, .string (queY s).r, .pointer (some ⟨wkb, 0, none⟩), .int .i64 bud, .int .i64 til]] w7 fun e w8 => e = .returned (.int .i64 ((D.rs.length + 1 : Nat) : Int)) /\ w8.cell? ⟨gb, 0, none⟩ = some (.int .i32 1) /\ w8.frozen? ⟨gb, 0, none⟩ = false /\ Hid (OpP w B gb g m lo xs now R Q g.cl (fun D' => D' = takeD D (tkOf now s bud til)) (w8.setCell ⟨gb, 0, none⟩ (.int .i32 0))))) := by
 obtain ⟨hok, hhr⟩ := askE_zero he
 obtain ⟨hsx, hsy⟩ := que_small hok
 have hq := queOk_of hok xs now
 have hgq := h.gate s hs
 obtain ⟨db', tv, wb, ls, hdb', hd1, hpg1, hru1, htv1, hf1, hz1⟩ := h.lockd
 have hdd : db' = db := by
  have e : Value.pointer (some ⟨db', 0, none⟩) = Value.pointer (some ⟨db, 0, none⟩) := hdb'.symm.trans hdb
  simp only [Value.pointer.injEq, Option.some.injEq, Addr.mk.injEq, and_true] at e
  exact e
 subst hdd
 have hb5 : Below (w.setCell ⟨gb, 0, none⟩ (.int .i32 1)).heap.size (w.setCell ⟨gb, 0, none⟩ (.int .i32 1)) w5 := by rw [hz1]; exact hb
 refine (queClone_any (queX s) (queY s) hsx hsy w5).mono ?_
 rintro e w6 ⟨he6, hb56⟩
 have hb6 : Below (w.setCell ⟨gb, 0, none⟩ (.int .i32 1)).heap.size (w.setCell ⟨gb, 0, none⟩ (.int .i32 1)) w6 := hb5.trans (hb56.mono hb5.size)
 have hpg6 := pg_below hpg1 hb6
 have c65 : w6.cell? ⟨gb, 5, none⟩ = some (.pointer (some ⟨db', 0, none⟩)) := by rw [← hdb]; exact row_cell hpg6 (j := 5) rfl
 refine ⟨he6, c65, ?_⟩
 have hru6 : RulesN w6 g.mb xs := ⟨m, lo, (hru1.below hb6).now.1, (hru1.below hb6).now.2⟩
 have htv6 : StrT w6 g.tv now := strT_to htv1 fun k hk => hb6.block k (strT_own htv1 k hk).1
 refine (gTask_any HN hgq.pl (g := { g with lk := 1 }) hpg6 hru6 htv6 hq.ok hq.th hq.rU (y := queY s) bud til).mono ?_
 rintro e w7 ⟨wkb, he7, hb67, O, hwk, hO⟩
 have hb7 : Below (w.setCell ⟨gb, 0, none⟩ (.int .i32 1)).heap.size (w.setCell ⟨gb, 0, none⟩ (.int .i32 1)) w7 := hb6.trans (hb67.mono hb6.size)
 have hpg7 := pg_below hpg1 hb7
 have c75 : w7.cell? ⟨gb, 5, none⟩ = some (.pointer (some ⟨db', 0, none⟩)) := by rw [← hdb]; exact row_cell hpg7 (j := 5) rfl
 refine ⟨wkb, he7, c75, ?_⟩
 have hd7 := hd1.below hb7
 have hs6 : w.heap.size <= w6.heap.size := by rw [← hz1]; exact hb6.size
 have hs7 : w.heap.size <= w7.heap.size := by rw [← hz1]; exact hb7.size
 have hQl := h.lt.1
 have hRl := h.ru.lt
 have hT : TkNew xs g.mb R Q O wkb [queX s] (tkOf now s bud til) w7 := ⟨hwk, by simp, hq.sz, hb1, hb9, ht0, ht9, fun k e q => by have := hO k e; have := hQl k q; omega, fun k r e => by have := hO k e; have := hRl k r; omega⟩
 refine (dkTake_any hd7 hfu hT).mono ?_
 rintro e w8 ⟨he8, hf8, Q', tv', ls', hD8, hQ'⟩
 have hff : Frm Q (w.setCell ⟨gb, 0, none⟩ (.int .i32 1)) w8 := (Frm.of_below hb7).trans hf8 fun _ _ e => e
 refine ⟨he8, h.after hdb hff hD8 ?_ (fun k e => ?_) rfl⟩
 ·intro i j r hi hr
  have hi2 : D.wk[i]? = some (some j) := hi
  have hj := hd1.ok.wj i j hi2
  have hr2 : (D.rs ++ [lateR D.clock (newR (tkOf now s bud til))])[j]? = some r := hr
  rw [List.getElem?_append_left hj] at hr2
  exact h.dw i j r hi2 hr2
 ·rcases hQ' k e with e | e | e
  ·exact Or.inl e
  ·have h1 := hO k e
   exact Or.inr ⟨by omega, Nat.lt_of_lt_of_le (hwk.lt k e) hf8.size⟩
  ·exact Or.inr ⟨by omega, e.2⟩
theorem KD.hasRu {w : World} {B gb : Nat} {g : Pg} {m : List (Value × Value)} {lo : Nat} {xs now : List ByteArray} {R Q : Nat -> Prop} {D : Dk} (h : KD w B gb g m lo xs now R Q D) {s : ByteArray} (hs : s.size <= maxLen) {w1 : World} (hb : Below w.heap.size (w.setCell ⟨gb, 0, none⟩ (.int .i32 1)) w1) :
  Calls Tryz.prog 47 #[.pointer (some ⟨gb, 0, none⟩), .agg #[.string (queX s).k, .string (queX s).n, .string (queX s).r]] w1 fun e w' => e = .returned (.bool (hasR xs (queX s))) /\ Below w1.heap.size w1 w' := by
 obtain ⟨db', tv, wb, ls, hdb', hd1, hpg1, hru1, htv1, hf1, hz1⟩ := h.lockd
 have hb1 : Below (w.setCell ⟨gb, 0, none⟩ (.int .i32 1)).heap.size (w.setCell ⟨gb, 0, none⟩ (.int .i32 1)) w1 := by rw [hz1]; exact hb
 have hO := que_sizesK s hs
 obtain ⟨m', h1, h2, h3⟩ := hasR_found (show RulesN w1 g.mb xs from ⟨m, lo, (hru1.below hb1).now.1, (hru1.below hb1).now.2⟩) (queX s)
 have := hasRule_any gb { g with lk := 1 } m' h2 (queX s).k (queX s).n (queX s).r hO.1 hO.2.2 w1 (pg_below hpg1 hb1) h1
 rw [h3] at this
 exact this
theorem gSubmit_ok (HN : Hid NodeC) {w : World} {B gb : Nat} {g : Pg} {m : List (Value × Value)} {lo : Nat} {xs now : List ByteArray} {R Q : Nat -> Prop} {D : Dk} (h : KD w B gb g m lo xs now R Q D) (hc : g.cl = false) {s : ByteArray} (hs : s.size <= maxLen) (he : askE xs s = 0) {bud til : Int} (hb1 : 1 <= bud) (hb9 : bud <= 1000000000) (ht0 : 0 <= til) (ht9 : til <= 1000000000) (hfu : fullD D = false) :
  Calls Tryz.prog 27 #[.pointer (some ⟨gb, 0, none⟩), .string s, .int .i64 bud, .int .i64 til] w fun e w' => e = .returned (.tuple #[.int .i64 ((D.rs.length + 1 : Nat) : Int), .int .i64 0]) /\ OpP w B gb g m lo xs now R Q g.cl (fun D' => D' = takeD D (tkOf now s bud til)) w' := by
 obtain ⟨db, tv, wb, ls, hdb, hd1, hpg1, hru1, htv1, hf1, hz1⟩ := h.lockd
 have hl30 : D.rs.length < 30 := by
  unfold fullD at hfu
  rw [Bool.or_eq_false_iff] at hfu
  have := of_decide_eq_false hfu.1
  omega
 have hv : askV xs s = .agg #[.string (queX s).k, .string (queX s).n, .string (queX s).r, .string (queY s).k, .string (queY s).n, .string (queY s).r] := if_pos he
 have HW1 : Hid (∀ w1, Calls Tryz.prog 55 #[.int .i64 bud, .int .i64 1, .int .i64 1000000000] w1 fun e w' => e = .returned (.bool true) /\ w' = w1) := by
  intro w1
  have e : (decide (1 <= bud) && decide (bud <= 1000000000)) = true := by rw [Bool.and_eq_true]; exact ⟨decide_eq_true hb1, decide_eq_true hb9⟩
  have := within_any bud 1 1000000000 w1
  rw [e] at this; exact this
 have HW2 : Hid (∀ w1, Calls Tryz.prog 55 #[.int .i64 til, .int .i64 0, .int .i64 1000000000] w1 fun e w' => e = .returned (.bool true) /\ w' = w1) := by
  intro w1
  have e : (decide (0 <= til) && decide (til <= 1000000000)) = true := by rw [Bool.and_eq_true]; exact ⟨decide_eq_true ht0, decide_eq_true ht9⟩
  have := within_any til 0 1000000000 w1
  rw [e] at this; exact this
 have HRD : Hid (Calls Tryz.prog 41 #[.pointer (some ⟨gb, 0, none⟩), .string s] (w.setCell ⟨gb, 0, none⟩ (.int .i32 1)) fun e w2 => e = .returned (.tuple #[.agg #[.string (queX s).k, .string (queX s).n, .string (queX s).r, .string (queY s).k, .string (queY s).n, .string (queY s).r], .int .i64 0]) /\ Below w.heap.size (w.setCell ⟨gb, 0, none⟩ (.int .i32 1)) w2) := by
  have hr := gateRead2 (xs := xs) (b := gb) (w := w.setCell ⟨gb, 0, none⟩ (.int .i32 1)) s (fun w1 hb => h.hasRu hs (by rw [← hz1]; exact hb)) hs
  rw [hv, he] at hr
  refine hr.mono ?_
  rintro e w2 ⟨h1, h2⟩
  exact ⟨h1, by rw [← hz1]; exact h2⟩
 have HFL : Hid (∀ w3, Below w.heap.size (w.setCell ⟨gb, 0, none⟩ (.int .i32 1)) w3 -> Calls Tryz.prog 58 #[.pointer (some ⟨db, 0, none⟩)] w3 fun e w4 => e = .returned (.bool false) /\ Below w3.heap.size w3 w4) := by
  intro w3 hb
  have := dkFull_any (hd1.below (by rw [hz1]; exact hb))
  rw [hfu] at this; exact this
 have HC5 : Hid (∀ w3, Below w.heap.size (w.setCell ⟨gb, 0, none⟩ (.int .i32 1)) w3 -> w3.cell? ⟨gb, 5, none⟩ = some (.pointer (some ⟨db, 0, none⟩))) := by
  intro w3 hb
  rw [← hdb]
  exact row_cell (pg_below hpg1 (by rw [hz1]; exact hb)) (j := 5) rfl
 have HCH : Hid _ := fun w5 hb => sub_chain HN h hs he hb1 hb9 ht0 ht9 hl30 (w5 := w5) hb hdb
 have h0 := row_cell h.pg (j := 0) rfl
 have f0 := row_frozen h.pg 0
 have c6 := row_cell hpg1 (j := 6) rfl
 have hlk := h.lk
 have hltg := row_lt h.pg
 clear h hd1 hpg1 hru1 htv1 hf1 hfu hv
 obtain ⟨lk, mb, tvg, ver, dk, cl⟩ := g
 dsimp only at hlk hdb hc
 subst hlk
 subst hdb
 subst hc
 generalize OpP w B gb _ m lo xs now R Q _ (fun D' => D' = takeD D (tkOf now s bud til)) = PP at *
 generalize D.rs.length = N at *
 generalize queX s = x at *
 generalize queY s = y at *
 clear he hs hb1 hb9 ht0 ht9 HN
 go_enter_defers Tryz.func27, Tryz.ntmps27
 go_wp2_with (first
  | (go_at_call 51; refine (lock_free Tryz.muLib ⟨gb, 0, none⟩ _ h0 f0).mono ?_; rintro e w1 ⟨rfl, hw1⟩; subst w1)
  | (go_at_call 55; refine (HW1.out _).mono ?_; rintro e w2 ⟨rfl, hw2⟩; subst w2; clear HW1)
  | (go_at_call 55; refine (HW2.out _).mono ?_; rintro e w2 ⟨rfl, hw2⟩; subst w2; clear HW2)
  | (go_at_call 41; refine HRD.out.mono ?_; rintro e w2 ⟨rfl, hb2⟩; have hb3 : Below w.heap.size (w.setCell ⟨gb, 0, none⟩ (.int .i32 1)) (w2.alloc (.cells #[.string x.k, .string x.n, .string x.r, .string y.k, .string y.n, .string y.r] 77)) := hb2.alloc (by rw [← hz1]; exact hb2.size) _; have g5 := HC5.out _ hb3; have HF3 : Hid _ := HFL.out _ hb3)
  | (go_at_call 58; refine (Calls.mono HF3.out) ?_; rintro e w4 ⟨rfl, hb4⟩))
 have hb4' : Below w.heap.size (w.setCell ⟨gb, 0, none⟩ (.int .i32 1)) w4 := hb3.trans (hb4.mono (by rw [← hz1]; exact hb3.size))
 have g54 := HC5.out w4 hb4'
 have hq4 : w4.heap[w2.heap.size]? = some (.cells (queL x y).toArray 77 (0, 0)) := (hb4.block _ (by show w2.heap.size < (w2.heap.push _).size; simp)).trans (alloc_new w2 (queL x y) _)
 have l0 : w4.cell? ⟨w2.heap.size, 0, none⟩ = some (.string x.k) := row_cell hq4 (j := 0) rfl
 have l1 : w4.cell? ⟨w2.heap.size, 1, none⟩ = some (.string x.n) := row_cell hq4 (j := 1) rfl
 have l2 : w4.cell? ⟨w2.heap.size, 2, none⟩ = some (.string x.r) := row_cell hq4 (j := 2) rfl
 have l3 : w4.cell? ⟨w2.heap.size, 3, none⟩ = some (.string y.k) := row_cell hq4 (j := 3) rfl
 have l4 : w4.cell? ⟨w2.heap.size, 4, none⟩ = some (.string y.n) := row_cell hq4 (j := 4) rfl
 have l5 : w4.cell? ⟨w2.heap.size, 5, none⟩ = some (.string y.r) := row_cell hq4 (j := 5) rfl
 have HC4 : Hid (∀ w5, Below w4.heap.size w4 w5 -> Below w.heap.size (w.setCell ⟨gb, 0, none⟩ (.int .i32 1)) w5) := fun w5 hb => hb4'.trans (hb.mono (by rw [← hz1]; exact hb4'.size))
 clear HFL HC5 HRD HF3 hb3 hb2 hb4 hb4' hq4 g5
 refine wp_calm ?_
 go_region_with (first
  | (go_at_call 61; refine (Calls.mono (HCH.out _ (HC4.out _ (by repeat (first | exact Below.refl _ _ | refine Below.setCell ?_ (by first | exact Nat.le_refl _ | (simp; done) | (simp; omega)) _ | refine below_drewN ?_ _ | refine Below.drew ?_ | refine Below.alloc ?_ (by first | exact Nat.le_refl _ | (simp; done) | (simp; omega)) _))))) ?_; rintro e w6 ⟨rfl, k6, HTK⟩; clear HCH HC4)
  | (go_at_call 60; refine (Calls.mono HTK.out) ?_; rintro e w7 ⟨wkb, rfl, k7, HTA⟩; clear HTK)
  | (go_at_call 59; refine (Calls.mono HTA.out) ?_; rintro e w8 ⟨rfl, k0, z0, HP⟩; clear HTA))
 all_goals refine calm_normal ?_
 all_goals go_wp2
 all_goals
  refine leaves_cons (f := 52) (args := #[.pointer (some ⟨gb, 0, none⟩)]) (by simp) (by simp [go_sem]) ?_
  refine (unlock_deferred Tryz.muLib ⟨gb, 0, none⟩ .returning _ k0 z0).mono ?_
  rintro e u' w9 ⟨rfl, rfl, rfl⟩
  exact ⟨.tuple #[.int .i64 ((N + 1 : Nat) : Int), .int .i64 0], by simp [results, Tryz.results27, go_sem], rfl, HP.out⟩
open Go.RowKit Go.Shelf
theorem lateR_new {c : Int} {t : Tk} (h : ¬ t.til <= c) : lateR c (newR t) = newR t := lateR_not (t := t) rfl h
def WhoK (xs now : List ByteArray) (s : ByteArray) (w : World) (e : Ending) (w' : World) : Prop :=
 ∃ o n c, ∃ er : Int, e = .returned (.tuple #[.slice o n c, .bool (er == 0)]) /\ Below w.heap.size w w' /\ er = (if queOk s = false \/ queC s = true then 4 else if hasR xs (queX s) = false then 5 else 0) /\ ∃ zs : List ByteArray, n = zs.length /\ Sorted zs /\ zs.length <= 50 /\ w'.ownsRow w.heap.size 9 1 (.slice o n c) zs.length (strV zs) /\ if er = 0 then (∀ z, z ∈ zs ↔ ∃ u, InN (tsOf now) xs u (queX s) /\ thT u = z) else o = none /\ n = 0 /\ c = 0
theorem kWho_any {xs now : List ByteArray} {s : ByteArray} {w : World} {b : Nat} (HX : Hid (Calls Tryz.prog 40 #[.pointer (some ⟨b, 0, none⟩), .string s] w (ExpandP xs now s w))) :
  Calls Tryz.prog 19 #[.pointer (some ⟨b, 0, none⟩), .string s] w (WhoK xs now s w) := by
 have HX2 : Hid (Calls Tryz.prog 40 #[.pointer (some ⟨b, 0, none⟩), .string s] w fun e w' => ∃ o c, ∃ er : Int, ∃ zs : List ByteArray, e = .returned (.tuple #[.slice o zs.length c, .int .i64 er]) /\ zs.length <= 50 /\ Hid (Sorted zs) /\ Hid (StrsAt w' (.slice o zs.length c) zs) /\ Hid (∀ d, WhoK xs now s w (.returned (.tuple #[.slice o zs.length c, .bool (er == 0)])) (w'.drewN d))) := by
  refine HX.out.mono ?_
  rintro e w' ⟨o, n, c, er, rfl, hb, he, zs, rfl, hso, hzl, hown, hz⟩
  exact ⟨o, c, er, zs, rfl, hzl, hso, owns_strs hown, fun d => ⟨o, _, c, er, rfl, hb.trans ((below_draw ⟨d, rfl⟩).mono hb.size), he, zs, rfl, hso, hzl, owns_below hown (below_draw ⟨d, rfl⟩), hz⟩⟩
 clear HX
 generalize WhoK xs now s w = P at *
 go_enter Tryz.func19, Tryz.ntmps19
 go_wp2_with (go_at_call 40; refine HX2.out.mono ?_; rintro e w1 ⟨o, c, er, zs, rfl, hzl, HSO, HST, HP⟩)
 go_loopw [8] (fun i wr => ∃ k d : Nat, 1 <= k /\ (k <= zs.length \/ k = 1) /\ i = .int .i64 k /\ wr = w1.drewN d) (fun i _ => 51 - (intOf i).toNat)
 case atStart => exact ⟨1, 0, Nat.le_refl _, Or.inr rfl, rfl, rfl⟩
 case round =>
  obtain ⟨k, d, hk1, hk2, rfl, rfl⟩ := hrel
  by_cases hlt : k < zs.length
  ·obtain ⟨x, hx⟩ : ∃ x, zs[k - 1]? = some x := ⟨_, List.getElem?_eq_getElem (by omega)⟩
   obtain ⟨y, hy⟩ : ∃ y, zs[k]? = some y := ⟨_, List.getElem?_eq_getElem hlt⟩
   have hxy : ltB x y = true := sorted_lt HSO.out (by omega) hx hy
   unfold ltB at hxy
   obtain ⟨g, f, ho, hc1, hc2⟩ : ∃ g f, o = some ⟨g, f, none⟩ /\ w1.cell? ⟨g, f + (k - 1), none⟩ = some (.string x) /\ w1.cell? ⟨g, f + k, none⟩ = some (.string y) := by
    rcases HST.out with ⟨-, e⟩ | ⟨b, off, cap, e, hcc⟩
    ·rw [e] at hlt; simp at hlt
    ·injection e with e _ _
     exact ⟨b, off, e, hcc _ _ hx, hcc _ _ hy⟩
   subst ho
   have hk3 : ((k : Int) - 1) = ((k - 1 : Nat) : Int) := by omega
   have hk4 : k - 1 < zs.length := by omega
   clear hx hy
   go_wp2
   go_quiet (fail)
   go_wp2
   go_roundw
   case rel => exact ⟨k + 1, d + nq, by omega, by omega, by go_num, rfl⟩
   case measure => simp [intOf]; omega
  ·go_wp2
   exact HP.out d
theorem costP_zero {xs now : List ByteArray} {s : ByteArray} {w : World} {e : Ending} {w' : World} (h : CostP xs now s w e w') (he : askE xs s = 0) : ∃ met : List Nod, e = .returned (.tuple #[.int .i64 (met.length : Nat), .int .i64 0]) /\ Below w.heap.size w w' /\ met.Nodup /\ (∀ y, y ∈ met ↔ Rch (tsOf now) (ruleN xs) (queX s) y) /\ met.length <= 32000000 := by
 unfold CostP at h
 generalize askE xs s = er at h he
 subst he
 obtain ⟨k, h1, h2, h3⟩ := h
 rw [if_pos rfl] at h3
 obtain ⟨met, rfl, h4, h5, h6⟩ := h3
 exact ⟨met, h1, h2, h4, h5, h6⟩
theorem dismW_live {rs : List Rq} {j : Nat} {r : Rq} (h : rs[j]? = some r) (ht : r.tk ≠ none) : dismW rs (some j) = some j := by
 show (if liveJ rs j = true then some j else none) = some j
 have : liveJ rs j = true := by
  unfold liveJ; rw [h]
  show r.tk.isSome = true
  cases e : r.tk with
  | none => exact absurd e ht
  | some t => rfl
 rw [if_pos this]
theorem dismW_dead {rs : List Rq} {j : Nat} {r : Rq} (h : rs[j]? = some r) (ht : r.tk = none) : dismW rs (some j) = none := by
 show (if liveJ rs j = true then some j else none) = none
 have : liveJ rs j = false := by
  unfold liveJ; rw [h]
  show r.tk.isSome = false
  rw [ht]; rfl
 rw [if_neg (by rw [this]; decide)]
theorem two_set {i : Nat} (hi : i < 2) (o : Option Nat) : ([none, none] : List (Option Nat)).set i o = if i = 0 then [o, none] else [none, o] := by
 match i, hi with
 | 0, _ => rfl
 | 1, _ => rfl
 | i + 2, hi => omega
theorem last_get {pre : List Rq} (r : Rq) : (pre ++ [r])[pre.length]? = some r := by simp
theorem last_set {pre : List Rq} (r r' : Rq) : (pre ++ [r]).set pre.length r' = pre ++ [r'] := by simp
theorem last_any {pre : List Rq} {r q : Rq} {k : Nat} (h : (pre ++ [r])[k]? = some q) : (k < pre.length /\ q ∈ pre) \/ (k = pre.length /\ q = r) := by
 rcases Nat.lt_trichotomy k pre.length with e | e | e
 ·rw [List.getElem?_append_left e] at h
  exact Or.inl ⟨e, List.mem_of_getElem? h⟩
 ·subst e
  rw [last_get] at h
  injection h with h
  exact Or.inr ⟨rfl, h.symm⟩
 ·have := (List.getElem?_eq_some_iff.1 h).1
  simp at this
  omega
structure KnT (xs : List ByteArray) (t : Tk) (i n k : Nat) (pre : List Rq) (D : Dk) : Prop where
 hi : i < 2
 hp : ∀ r ∈ pre, r.is = 3
 clock : D.clock = 0
 qu : D.qu = 2
 ex : ∃ r : Rq, D.rs = pre ++ [r] /\ ((k = 0 /\ r = newR t /\ D.wk = [none, none]) \/ (0 < k /\ k < n /\ (k : Int) < t.bud /\ r = { newR t with is := 2, st := k } /\ D.wk = [none, none].set i (some pre.length)) \/ (r.tk = none /\ D.wk = [none, none] /\ r.is ≠ 1 /\ ((t.bud < (n : Int) /\ r.is = 4 /\ (r.st : Int) = t.bud /\ r.al = false) \/ ((n : Int) <= t.bud /\ r.is = 3 /\ r.st = n /\ AnsR xs t r.al r.us))))
theorem KnT.work {xs : List ByteArray} {t : Tk} {i n k : Nat} (hc : CostN xs t.now t.x n) {pre : List Rq} {r r' : Rq} (hi : i < 2) (hp : ∀ r ∈ pre, r.is = 3) {fin : Bool} (hs : StepR xs t r r' fin) (hr : r = { newR t with is := 2, st := k }) (hk : (k : Int) < t.bud) {D' : Dk} (hcl : D'.clock = 0) (hqu : D'.qu = 2) (hrs : D'.rs = pre ++ [r']) (hwk : D'.wk = [none, none].set i (dismW (pre ++ [r']) (some pre.length))) : KnT xs t i n (k + 1) pre D' := by
 subst hr
 have h1 := hs.cost n hc
 have hnn : ([none, none] : List (Option Nat)).set i none = [none, none] := by
  rw [two_set hi]; split <;> rfl
 cases fin with
 | true =>
  obtain ⟨q1, q2, q3, q4⟩ := hs.done rfl
  have e : k + 1 = n := h1.1 rfl
  refine ⟨hi, hp, hcl, hqu, r', hrs, Or.inr (Or.inr ⟨q3, ?_, by rw [q1]; decide, Or.inr ⟨by omega, q1, q2.trans e, q4⟩⟩)⟩
  rw [hwk, dismW_dead (r := r') (last_get r') q3, hnn]
 | false =>
  have e : k + 1 < n := h1.2 rfl
  by_cases hb2 : (k : Int) + 1 = t.bud
  ·have := hs.bud rfl hb2
   subst this
   refine ⟨hi, hp, hcl, hqu, _, hrs, Or.inr (Or.inr ⟨rfl, ?_, by show (4 : Int) ≠ 1; decide, Or.inl ⟨by omega, rfl, ?_, rfl⟩⟩)⟩
   ·rw [hwk, dismW_dead (r := { newR t with is := 4, st := k + 1, tk := none }) (last_get _) rfl, hnn]
   ·show ((k + 1 : Nat) : Int) = t.bud
    omega
  ·have := hs.on rfl hb2
   subst this
   refine ⟨hi, hp, hcl, hqu, _, hrs, Or.inr (Or.inl ⟨by omega, e, by omega, rfl, ?_⟩)⟩
   rw [hwk, dismW_live (r := { newR t with is := 2, st := k + 1 }) (last_get _) (by show some t ≠ none; simp)]
theorem KnT.step {xs : List ByteArray} {t : Tk} {i n k : Nat} (hc : CostN xs t.now t.x n) (hb1 : 1 <= t.bud) {pre : List Rq} {D D' : Dk} (h : KnT xs t i n k pre D) (hs : DStep xs D i D') : KnT xs t i n (k + 1) pre D' := by
 have hi := h.hi
 have hp := h.hp
 obtain ⟨r, hrs, hcs⟩ := h.ex
 have hma : ∀ q ∈ pre, mayR D q = false := by
  intro q hq
  unfold mayR waitsR; rw [hp q hq]; rfl
 have hmapw : ∀ (f : Option Nat -> Option Nat) (o : Option Nat), f none = none -> (([none, none] : List (Option Nat)).set i o).map f = [none, none].set i (f o) := by
  intro f o h0
  rw [two_set hi, two_set hi]
  split <;> simp [h0]
 have hget : ∀ o : Option Nat, (([none, none] : List (Option Nat)).set i o)[i]? = some o := by
  intro o
  rw [List.getElem?_set_self (by show i < 2; exact hi)]
 have hnone : ([none, none] : List (Option Nat))[i]? = some none := by
  have := hget none
  rw [two_set hi] at this
  by_cases e : i = 0
  ·subst e; rfl
  ·have : i = 1 := by omega
   subst this; rfl
 rcases hcs with ⟨hk, hr, hwk⟩ | ⟨hk, hkn, hkb, hr, hwk⟩ | ⟨ht, hwk, hr1, hor⟩
 ·subst hk hr
  have hw1 : D.wk[i]? = some none := by rw [hwk]; exact hnone
  have hmay : mayR D (newR t) = true := by
   unfold mayR
   show (waitsR (newR t) && !busyN D t.x) = true
   have : busyN D t.x = false := by unfold busyN; rw [hwk]; rfl
   rw [this]; rfl
  have hg : giveD D i = { D with rs := D.rs.set pre.length { newR t with is := 2 }, wk := D.wk.set i (some pre.length) } := giveD_some (by rw [hrs]; exact last_get _) hmay (fun k r hk hr => by
   rw [hrs] at hr
   rcases last_any hr with ⟨-, e⟩ | ⟨e, -⟩
   ·exact hma _ e
   ·omega)
  cases hs with
  | idle _ he h2 =>
   rw [if_pos hw1, hg] at he
   rw [he] at h2
   have h2' : (D.wk.set i (some pre.length))[i]? = some none := h2
   rw [hwk, hget] at h2'
   cases h2'
  | work D1 he j hj2 r r' t0 fin hr ht hst =>
   rw [if_pos hw1, hg] at he
   subst he
   have hj' : (D.wk.set i (some pre.length))[i]? = some (some j) := hj2
   rw [hwk, hget] at hj'
   have hj : j = pre.length := by
    injection hj' with hj'
    injection hj' with hj'
    exact hj'.symm
   subst hj
   have hr' : (D.rs.set pre.length { newR t with is := 2 })[pre.length]? = some r := hr
   rw [hrs, last_set, last_get] at hr'
   injection hr' with hr'
   subst hr'
   have ht' : some t = some t0 := ht
   injection ht' with ht'
   subst ht'
   have key : ∀ A C : Rq, (D.rs.set pre.length A).set pre.length C = pre ++ [C] := by
    intro A C; rw [hrs, last_set, last_set]
   refine KnT.work hc hi hp hst rfl (show ((0 : Nat) : Int) < t.bud by omega) h.clock h.qu (key { newR t with is := 2 } r') ?_
   show (D.wk.set i (some pre.length)).map (dismW ((D.rs.set pre.length { newR t with is := 2 }).set pre.length r')) = _
   rw [key, hwk, hmapw _ _ rfl]
 ·have hw1 : D.wk[i]? = some (some pre.length) := by rw [hwk]; exact hget _
  have hn : ¬ D.wk[i]? = some none := by rw [hw1]; simp
  cases hs with
  | idle _ he h2 =>
   rw [if_neg hn] at he
   rw [he] at h2
   exact absurd h2 hn
  | work D1 he j hj2 r0 r' t0 fin hr0 ht hst =>
   rw [if_neg hn] at he
   subst he
   rw [hw1] at hj2
   injection hj2 with hj2
   injection hj2 with hj2
   subst hj2
   rw [hrs, last_get] at hr0
   injection hr0 with hr0
   subst hr0
   rw [hr] at ht
   have ht : some t = some t0 := ht
   injection ht with ht
   subst ht
   refine KnT.work hc hi hp hst hr hkb h.clock h.qu (by show D1.rs.set pre.length r' = _; rw [hrs, last_set]) ?_
   show D1.wk.map (dismW (D1.rs.set pre.length r')) = _
   rw [hwk, hrs, last_set, hmapw _ _ rfl]
 ·have hw1 : D.wk[i]? = some none := by rw [hwk]; exact hnone
  have hmr : mayR D r = false := by unfold mayR waitsR; rw [decide_eq_false hr1]; rfl
  have hg : giveD D i = D := giveD_none fun k q hq => by
   rw [hrs] at hq
   rcases last_any hq with ⟨-, e⟩ | ⟨-, e⟩
   ·exact hma _ e
   ·rw [e]; exact hmr
  cases hs with
  | idle _ he h2 =>
   rw [if_pos hw1, hg] at he
   subst he
   exact ⟨hi, hp, h.clock, h.qu, r, hrs, Or.inr (Or.inr ⟨ht, hwk, hr1, hor⟩)⟩
  | work D1 he j hj2 r0 r' t0 fin hr0 ht hst =>
   rw [if_pos hw1, hg] at he
   subst he
   rw [hw1] at hj2
   injection hj2 with hj2
   cases hj2
theorem KnT.workers {xs : List ByteArray} {t : Tk} {i n k : Nat} {pre : List Rq} {D : Dk} (h : KnT xs t i n k pre D) : D.wk.length = 2 := by
 obtain ⟨r, -, ⟨-, -, e⟩ | ⟨-, -, -, -, e⟩ | ⟨-, e, -⟩⟩ := h.ex
 ·rw [e]; rfl
 ·rw [e]; simp
 ·rw [e]; rfl
def nt0 : Tk := tkOf nnow nqu 6 10
def nt1 : Tk := tkOf nnow nqu 5 10
theorem nt0_cost : CostN nrules nt0.now nt0.x 6 := by
 show CostN nrules nnow (queX nqu) 6
 rw [nqu_ok.2.2.2]; exact nr_cost
theorem nt1_cost : CostN nrules nt1.now nt1.x 6 := nt0_cost
theorem nk_begin : fullD (newD 2 2) = false /\ KnT nrules nt0 0 6 0 [] (takeD (newD 2 2) nt0) := by
 refine ⟨by decide, by decide, (fun r hr => by cases hr), rfl, rfl, newR nt0, ?_, Or.inl ⟨rfl, rfl, rfl⟩⟩
 show [] ++ [lateR 0 (newR nt0)] = _
 rw [lateR_new (by show ¬ (10 : Int) <= 0; decide)]
theorem nk_mid {D : Dk} (h : KnT nrules nt0 0 6 6 [] D) : (pollR D 1).is = 3 /\ (pollR D 1).st = 6 /\ (pollR D 1).al = true /\ D.rs.length = 1 /\ fullD D = false /\ ∃ a, KnT nrules nt1 1 6 0 [a] (takeD D nt1) := by
 obtain ⟨r, hrs, hcs⟩ := h.ex
 have hrs1 : D.rs = [r] := hrs
 have e : pollR D 1 = r := pollR_at (D := D) (n := 0) (by rw [hrs1]; rfl)
 have hb : nt0.bud = 6 := rfl
 rcases hcs with ⟨hk, -⟩ | ⟨-, hk, -⟩ | ⟨ht, hwk, hr1, hor⟩
 ·omega
 ·omega
 ·rcases hor with ⟨hx, -⟩ | ⟨-, h3, h4, h5⟩
  ·rw [hb] at hx; omega
  ·have hal : r.al = true := by
    refine (h5.yes nqu_ok.2.1).2.2 ?_
    obtain ⟨u, h1, h2⟩ := nchk_yes
    refine ⟨u, ?_, ?_⟩
    ·show InN (tsOf nnow) nrules u (queX nqu)
     rw [nqu_ok.2.2.2]; exact h1
    ·show thT u = thT (queY nqu)
     rw [nqu_y]; exact h2
   have hl : D.rs.length = 1 := by rw [hrs1]; rfl
   rw [e]
   refine ⟨h3, h4, hal, hl, ?_, r, by decide, (fun q hq => ?_), h.clock, h.qu, newR nt1, ?_, Or.inl ⟨rfl, rfl, hwk⟩⟩
   ·unfold fullD
    have := waitN_le D.rs
    rw [h.qu, Bool.or_eq_false_iff]
    exact ⟨decide_eq_false (by omega), decide_eq_false (by omega)⟩
   ·rw [List.mem_singleton] at hq
    rw [hq]; exact h3
   ·show D.rs ++ [lateR D.clock (newR nt1)] = _
    rw [hrs1, h.clock, lateR_new (by show ¬ (10 : Int) <= 0; decide)]
theorem nk_end {D : Dk} {a : Rq} (h : KnT nrules nt1 1 6 9 [a] D) : (pollR D 2).is = 4 /\ (pollR D 2).st = 5 /\ (pollR D 2).al = false := by
 obtain ⟨r, hrs, hcs⟩ := h.ex
 have hrs1 : D.rs = [a, r] := hrs
 have e : pollR D 2 = r := pollR_at (D := D) (n := 1) (by rw [hrs1]; rfl)
 have hb : nt1.bud = 5 := rfl
 rcases hcs with ⟨hk, -⟩ | ⟨-, hk, -⟩ | ⟨ht, hwk, hr1, hor⟩
 ·omega
 ·omega
 ·rcases hor with ⟨-, h3, h4, h5⟩ | ⟨hx, -⟩
  ·rw [e]
   rw [hb] at h4
   exact ⟨h3, by omega, h5⟩
  ·rw [hb] at hx; omega
open Go.RowKit Go.Shelf Go.MuLone
def GPolB (w : World) (r : Rq) (o : Option Addr) (c : Nat) (w' : World) : Prop :=
 w'.ownsRow w.heap.size 9 1 (.slice o r.us.length c) r.us.length (strV r.us) /\ Below w.heap.size w w'
theorem gPoll_below {w : World} {B gb : Nat} {g : Pg} {m : List (Value × Value)} {lo : Nat} {xs now : List ByteArray} {R Q : Nat -> Prop} {D : Dk} (h : KD w B gb g m lo xs now R Q D) (id : Int) :
  Calls Tryz.prog 29 #[.pointer (some ⟨gb, 0, none⟩), .int .i64 id] w fun e w' => ∃ o c, e = .returned (.agg #[.int .i64 (pollR D id).is, .int .i64 (pollR D id).st, .bool (pollR D id).al, .slice o (pollR D id).us.length c]) /\ GPolB w (pollR D id) o c w' := by
 have hbZ : Below w.heap.size w (w.alloc (.cells zeroS.toArray 51)) := (Below.refl _ _).alloc (Nat.le_refl _) _
 have hzZ : (w.alloc (.cells zeroS.toArray 51)).heap.size = w.heap.size + 1 := by show (w.heap.push _).size = _; simp
 have hrZ := alloc_new w zeroS 51
 obtain ⟨w0, hw0⟩ : ∃ w0, w.alloc (.cells zeroS.toArray 51) = w0 := ⟨_, rfl⟩
 rw [hw0] at hbZ hzZ hrZ
 have hk0 := h.later hbZ
 obtain ⟨db, tv, wb, ls, hdb, hd1, hpg1, -, -, hf1, hz1⟩ := hk0.lockd
 have hgl := row_lt h.pg
 have hr1 : (w0.setCell ⟨gb, 0, none⟩ (.int .i32 1)).heap[w.heap.size]? = some (.cells zeroS.toArray 51 (0, 0)) := (hf1.block _ (row_lt hrZ) (by omega)).trans hrZ
 generalize hr : pollR D id = r
 have HST : Hid (Calls Tryz.prog 64 #[.pointer (some ⟨db, 0, none⟩), .int .i64 id] (w0.setCell ⟨gb, 0, none⟩ (.int .i32 1)) fun e w2 => ∃ o c, e = .returned (.agg #[.int .i64 r.is, .int .i64 r.st, .bool r.al, .slice o r.us.length c]) /\ Hid (w2.heap[w.heap.size]? = some (.cells zeroS.toArray 51 (0, 0))) /\ Hid (PgAt w2 gb { g with lk := 1 }) /\ Hid (∀ w3, Frm (fun k => k = w.heap.size) w2 w3 -> GPolB w r o c (w3.setCell ⟨gb, 0, none⟩ (.int .i32 0)))) := by
  refine (dkState_any hd1 id).mono ?_
  intro e w2 hp
  rw [hr] at hp
  obtain ⟨o, c, rfl, ho, hb⟩ := hp
  have hpg2 := pg_below hpg1 hb
  have hr2 := (hb.block _ (row_lt hr1)).trans hr1
  refine ⟨o, c, rfl, hr2, hpg2, ?_⟩
  intro w3 hf3
  have hpg3 : PgAt w3 gb { g with lk := 1 } := (hf3.block gb (row_lt hpg2) (by omega)).trans hpg2
  have hff : Frm (fun k => k = gb) w w3 := by
   refine (((Frm.of_below hbZ).trans hf1 fun k _ e => e).trans (Frm.of_below (X := fun _ => False) hb) fun _ _ e => e.elim).trans hf3 fun k hk e => ?_
   omega
  have hz3 : (w3.setCell ⟨gb, 0, none⟩ (.int .i32 0)).heap.size = w3.heap.size := by simp [World.setCell]
  have hpg4 : PgAt (w3.setCell ⟨gb, 0, none⟩ (.int .i32 0)) gb g := by
   have := pg_lock hpg3 0
   obtain ⟨lk, mb, tv', ver, dk, cl⟩ := g
   have hlk : lk = 0 := h.lk
   subst hlk
   exact this
  have hop : Below w.heap.size w (w3.setCell ⟨gb, 0, none⟩ (.int .i32 0)) := by
   refine ⟨hff.os, hff.tape, hff.output, by rw [hz3]; exact hff.size, fun k hk => ?_⟩
   by_cases e : k = gb
   ·rw [e]; exact hpg4.trans h.pg.symm
   ·exact (Below.heap_setCell _ _ _ _ e).trans (hff.block k hk e)
  refine ⟨?_, hop⟩
  have ho2 : w2.ownsRow (w.heap.size + 1) 9 1 (.slice o r.us.length c) r.us.length (strV r.us) := by rw [← hzZ, ← hz1]; exact ho
  have ho3 : w3.ownsRow (w.heap.size + 1) 9 1 (.slice o r.us.length c) r.us.length (strV r.us) := owns_to ho2 fun k hk => hf3.block k (owns_lt ho2 k hk).1 (by have := (owns_lt ho2 k hk).2.1; omega)
  exact owns_base (ownsSet ho3 (by omega) _ _) (by omega)
 have h0 := row_cell hk0.pg (j := 0) rfl
 have f0 := row_frozen hk0.pg 0
 have c5 := row_cell hpg1 (j := 5) rfl
 have hlk := h.lk
 have hw0' : w.alloc (.cells #[.int .i64 0, .int .i64 0, .bool false, .slice none 0 0] 51) = w0 := hw0
 clear h hd1 hpg1 hf1 hz1 hk0 hbZ hrZ hr1 hr hw0
 obtain ⟨lk, mb, tvg, ver, dk, cl⟩ := g
 dsimp only at hlk hdb
 subst hlk
 subst hdb
 generalize GPolB w r = PP at *
 generalize r.is = is at *
 generalize r.st = st at *
 generalize r.al = al at *
 generalize r.us.length = n at *
 go_enter_defers Tryz.func29, Tryz.ntmps29
 go_wp2_with (first | (go_at_call 51; refine (lock_free Tryz.muLib ⟨gb, 0, none⟩ _ h0 f0).mono ?_; rintro e w1 ⟨rfl, hw1⟩; subst w1) | (go_at_call 64; refine (Calls.mono HST.out) ?_; rintro e w3 ⟨o, c, rfl, HR, HG, HP⟩; have q0 := row_cell HR.out (j := 0) rfl; have q1 := row_cell HR.out (j := 1) rfl; have q2 := row_cell HR.out (j := 2) rfl; have q3 := row_cell HR.out (j := 3) rfl; have z4 := row_frozen HR.out 0; have z5 := row_frozen HR.out 1; have z6 := row_frozen HR.out 2; have z7 := row_frozen HR.out 3))
 have hf4 : Frm (fun k => k = w.heap.size) w3 ((((w3.setCell ⟨w.heap.size, 0, none⟩ (.int .i64 is)).setCell ⟨w.heap.size, 1, none⟩ (.int .i64 st)).setCell ⟨w.heap.size, 2, none⟩ (.bool al)).setCell ⟨w.heap.size, 3, none⟩ (.slice o n c)) := (((frm_set _ _ _ _).trans (frm_set _ _ _ _) fun _ _ e => e).trans (frm_set _ _ _ _) fun _ _ e => e).trans (frm_set _ _ _ _) fun _ _ e => e
 have hG4 : PgAt ((((w3.setCell ⟨w.heap.size, 0, none⟩ (.int .i64 is)).setCell ⟨w.heap.size, 1, none⟩ (.int .i64 st)).setCell ⟨w.heap.size, 2, none⟩ (.bool al)).setCell ⟨w.heap.size, 3, none⟩ (.slice o n c)) gb ⟨1, mb, tvg, ver, .pointer (some ⟨db, 0, none⟩), cl⟩ := (hf4.block gb (row_lt HG.out) (by omega)).trans HG.out
 have hne2 : ¬ w.heap.size = gb := by omega
 have HF : Hid _ := HP.out _ hf4
 refine leaves_cons (f := 52) (args := #[.pointer (some ⟨gb, 0, none⟩)]) (by simp) (by simp [go_sem]) ?_
 refine (unlock_deferred Tryz.muLib ⟨gb, 0, none⟩ .returning _ (row_cell hG4 (j := 0) rfl) (row_frozen hG4 0)).mono ?_
 rintro e u' w6 ⟨rfl, rfl, rfl⟩
 exact ⟨.agg #[.int .i64 is, .int .i64 st, .bool al, .slice o n c], by simp [results, Tryz.results29, go_sem, q0, q1, q2, q3], o, c, rfl, HF.out⟩
open Go.RowKit Go.Shelf
theorem kSame_any (v u : Value) (xs ys : List ByteArray) (w : World) (h : StrsAt w v xs) (g : StrsAt w u ys) (hl : xs.length <= maxLen) (gl : ys.length <= maxLen) :
  Calls Tryz.prog 25 #[v, u] w fun e w' => e = .returned (.bool (sameL xs ys)) /\ ∃ n, w' = w.drewN n := by
 unfold maxLen at hl gl
 by_cases hne : xs.length = ys.length
 ·rcases h with ⟨rfl, rfl⟩ | ⟨b, off, cap, rfl, hc⟩
  ·have hy : ys = [] := List.eq_nil_of_length_eq_zero hne.symm
   subst hy
   rcases g with ⟨rfl, -⟩ | ⟨b', off', cap', rfl, gc⟩
   all_goals
    go_enter Tryz.func25, Tryz.ntmps25
    go_wp2
    refine wp_loop_rounds 1 ?_
    rw [rounds_succ]
    go_wp2
    go_ret
    exact ⟨rfl, ⟨0, rfl⟩⟩
  ·rcases g with ⟨rfl, rfl⟩ | ⟨b', off', cap', rfl, gc⟩
   ·have hx : xs = [] := List.eq_nil_of_length_eq_zero hne
    subst hx
    go_enter Tryz.func25, Tryz.ntmps25
    go_wp2
    refine wp_loop_rounds 1 ?_
    rw [rounds_succ]
    go_wp2
    go_ret
    exact ⟨rfl, ⟨0, rfl⟩⟩
   ·obtain ⟨n, hn⟩ : ∃ n, xs.length = n := ⟨_, rfl⟩
    have HX : Hid (xs.length = n) := hn
    have HY : Hid (ys.length = n) := by show _ = _; omega
    rw [← hne, hn]
    rw [hn] at hl
    clear hn hne gl
    go_enter Tryz.func25, Tryz.ntmps25
    go_wp2
    go_loopw [5] (fun i wr => ∃ k d : Nat, k <= n /\ i = .int .i64 k /\ wr = w.drewN d /\ xs.take k = ys.take k) (fun i _ => n - (intOf i).toNat)
    case atStart => exact ⟨0, 0, Nat.zero_le _, rfl, rfl, rfl⟩
    case round =>
     obtain ⟨k, d, hk, rfl, rfl, hh⟩ := hrel
     have HH : Hid (xs.take k = ys.take k) := hh
     clear hh
     by_cases hlt : k < n
     ·have hkx : k < xs.length := by have := HX.out; omega
      have hky : k < ys.length := by have := HY.out; omega
      obtain ⟨x, hx⟩ : ∃ x, xs[k] = x := ⟨_, rfl⟩
      obtain ⟨y, hy⟩ : ∃ y, ys[k] = y := ⟨_, rfl⟩
      have h1 := hc k x (by rw [List.getElem?_eq_getElem hkx, hx])
      have h2 := gc k y (by rw [List.getElem?_eq_getElem hky, hy])
      have HZ : Hid (xs.take (k + 1) = xs.take k ++ [x] /\ ys.take (k + 1) = ys.take k ++ [y]) := ⟨by rw [List.take_succ_eq_append_getElem hkx, hx], by rw [List.take_succ_eq_append_getElem hky, hy]⟩
      have HW : Hid (xs = ys -> x = y) := by
       intro e; subst e; rw [← hx, ← hy]
      clear hkx hky hx hy hc gc
      by_cases hq : (x.toList == y.toList) = true
      ·go_wp2
       go_quiet (fail)
       go_wp2
       go_roundw
       case rel => exact ⟨k + 1, d + nq, by omega, by go_num, rfl, by rw [HZ.out.1, HZ.out.2, HH.out]; rw [byte_eq, decide_eq_true_eq] at hq; rw [hq]⟩
       case measure => simp [intOf]; omega
      ·have hq : (x.toList == y.toList) = false := by simpa using hq
       go_wp2
       go_quiet (fail)
       go_wp2
       go_ret
       refine ⟨ret_bool ?_, ⟨d + nq, drewN_two w d nq⟩⟩
       symm
       refine decide_eq_false (fun e => ?_)
       rw [byte_eq, decide_eq_false_iff_not] at hq
       exact hq (HW.out e)
     ·go_wp2
      go_ret
      refine ⟨ret_bool ?_, ⟨_, rfl⟩⟩
      have := HH.out
      rw [List.take_of_length_le (by have := HX.out; omega), List.take_of_length_le (by have := HY.out; omega)] at this
      exact (decide_eq_true this).symm
 ·have hb : ((xs.length : Int) != (ys.length : Int)) = true := by simp; omega
  have hs : sameL xs ys = false := decide_eq_false (fun e => hne (by rw [e]))
  rw [hs]
  clear hs
  rcases h with ⟨rfl, rfl⟩ | ⟨b, off, cap, rfl, hc⟩
  ·rcases g with ⟨rfl, rfl⟩ | ⟨b', off', cap', rfl, gc⟩
   ·exact absurd rfl hne
   ·have hb : ((0 : Int) != (ys.length : Int)) = true := hb
    go_enter Tryz.func25, Tryz.ntmps25
    go_wp2
    go_ret
    exact ⟨rfl, ⟨0, rfl⟩⟩
  ·rcases g with ⟨rfl, rfl⟩ | ⟨b', off', cap', rfl, gc⟩
   ·have hb : ((xs.length : Int) != (0 : Int)) = true := hb
    go_enter Tryz.func25, Tryz.ntmps25
    go_wp2
    go_ret
    exact ⟨rfl, ⟨0, rfl⟩⟩
   ·go_enter Tryz.func25, Tryz.ntmps25
    go_wp2
    go_ret
    exact ⟨rfl, ⟨0, rfl⟩⟩
theorem g_has {w : World} {v : Value} {xs : List ByteArray} (h : StrT w v xs) (hl : xs.length <= 100) (s : ByteArray) : Calls Tryz.prog 18 #[v, .string s] w fun e w' => e = .returned (.bool (hasL xs s)) /\ w' = w := kHas_any v xs s w h.strs (by unfold maxLen; omega)
theorem g_same {w : World} {v u : Value} {xs : List ByteArray} (h : StrT w v xs) (g : StrT w u xs) (hl : xs.length <= 100) : Calls Tryz.prog 25 #[v, u] w fun e w' => e = .returned (.bool true) /\ Below w.heap.size w w' := by
 refine (kSame_any v u xs xs w h.strs g.strs (by unfold maxLen; omega) (by unfold maxLen; omega)).mono ?_
 rintro e w' ⟨rfl, hd⟩
 exact ⟨by simp [sameL], below_draw hd⟩
structure XSt (W : World) (gb : Nat) (v : Int) (now : List ByteArray) (D : Dk) (Rs : List (Value × List ByteArray)) (w : World) : Prop where
 kd : ∃ g m lo R Q, g.cl = false /\ g.ver = v /\ KD w W.heap.size gb g m lo nrules now R Q D
 rows : ∀ p ∈ Rs, StrT w p.1 p.2 /\ ∀ k, p.1.ownBlock = some k -> k ≠ gb
 below : Below W.heap.size W w
theorem XSt.later {W : World} {gb : Nat} {v : Int} {now : List ByteArray} {D : Dk} {Rs : List (Value × List ByteArray)} {w w' : World} (h : XSt W gb v now D Rs w) (hb : Below w.heap.size w w') : XSt W gb v now D Rs w' := by
 obtain ⟨g, m, lo, R, Q, h1, h2, h3⟩ := h.kd
 refine ⟨⟨g, m, lo, R, Q, h1, h2, h3.later hb⟩, fun p hp => ?_, h.below.trans (hb.mono h.below.size)⟩
 obtain ⟨q1, q2⟩ := h.rows p hp
 exact ⟨strT_to q1 fun k hk => hb.block k (strT_own q1 k hk).1, q2⟩
theorem x_open (w : World) :
  Calls Tryz.prog 26 #[.slice (some ⟨w.heap.size, 0, none⟩) 5 5, .int .i64 2, .int .i64 2] (w.alloc (.cells (strV nrules).toArray 9)) fun e w2 => ∃ gb, e = .returned (.tuple #[.pointer (some ⟨gb, 0, none⟩), .int .i64 0, .int .i64 0]) /\
   Hid (Calls Tryz.prog 24 #[.pointer (some ⟨gb, 0, none⟩), .slice (some ⟨w2.heap.size, 0, none⟩) 6 6] (w2.alloc (.cells (strV nb0).toArray 9)) fun e w3 => e = .returned (.tuple #[.int .i64 1, .int .i64 0, .int .i64 0]) /\ Hid (XSt w gb 1 nnow (newD 2 2) [] w3)) := by
 have hb1 : Below w.heap.size w (w.alloc (.cells (strV nrules).toArray 9)) := (Below.refl _ _).alloc (Nat.le_refl _) _
 have hst : StrsAt (w.alloc (.cells (strV nrules).toArray 9)) (.slice (some ⟨w.heap.size, 0, none⟩) 5 5) nrules := Or.inr ⟨w.heap.size, 0, 5, rfl, fun i x hx => by rw [Nat.zero_add]; exact row_cell (alloc_new w (strV nrules) _) (strV_get hx)⟩
 generalize w.alloc (.cells (strV nrules).toArray 9) = w1 at hb1 hst
 refine (ghOpen_any _ nrules ((2 : Nat) : Int) 2 w1 hst (by rw [nrules_len]; unfold maxLen; omega)).mono ?_
 intro e w2 hp
 have ha : argsBad nrules.length ((2 : Nat) : Int) 2 = false := by
  rw [nrules_len]
  unfold argsBad
  simp only [Bool.or_eq_false_iff, decide_eq_false_iff_not]
  omega
 obtain ⟨gb, g, m, R, Q, rfl, hb2, hv, hcl, kd⟩ := KD.new hp ha nrules_ok (by rw [nrules_len]; omega) (by decide) (by decide) (by decide) (by decide)
 refine ⟨gb, rfl, ?_⟩
 have hb2a : Below w2.heap.size w2 (w2.alloc (.cells (strV nb0).toArray 9)) := (Below.refl _ _).alloc (Nat.le_refl _) _
 have hgl := row_lt kd.pg
 refine (((kd.later hb2a).kg hcl).writeL (by rw [hv]; decide) (bs := nb0) (ys := nnow) (by decide) (by decide) nb0_done (by decide) nnow_sorted w2.heap.size 6 (by omega) (fun i x hx => by rw [Nat.zero_add]; exact row_cell (alloc_new w2 (strV nb0) _) (strV_get hx))).mono ?_
 rintro e w3 ⟨rfl, hk, v, hvb, kg3⟩
 have kd3 := (kd.later hb2a).wrote hk hvb kg3
 have hb02 : Below w.heap.size w w2 := hb1.trans (hb2.mono hb1.size)
 have hb03 : Below w.heap.size w w3 := by
  have hs : w.heap.size <= w1.heap.size := hb1.size
  have h := kd.gB
  exact (hb02.trans (hb2a.mono hb02.size)).grown hk (Nat.le_trans hb02.size hb2a.size) (fun j hj => by injection hj with hj; omega)
 exact ⟨by rw [hv]; rfl, ⟨{ g with tv := v, ver := g.ver + 1 }, m, _, R, Q, hcl, (by show g.ver + 1 = 1; rw [hv]; rfl), kd3.base hb1.size⟩, (fun p hp => by cases hp), hb03⟩
theorem x_who (HN : Hid NodeC) (HW : Hid TWayC) {W : World} {gb : Nat} {v : Int} {now : List ByteArray} {D : Dk} {Rs : List (Value × List ByteArray)} {w : World} (h : XSt W gb v now D Rs w) {s : ByteArray} {x : Nod} (hs : s.size <= maxLen) (hq : queOk s = true /\ queC s = false /\ hasR nrules (queX s) = true /\ queX s = x) (zs : List ByteArray) (hso : Sorted zs) (hz : ∀ z, z ∈ zs ↔ ∃ u, InN (tsOf now) nrules u x /\ thT u = z) :
  Calls Tryz.prog 19 #[.pointer (some ⟨gb, 0, none⟩), .string s] w fun e w' => ∃ o c, e = .returned (.tuple #[.slice o zs.length c, .bool true]) /\ XSt W gb v now D ((.slice o zs.length c, zs) :: Rs) w' := by
 obtain ⟨g, m, lo, R, Q, h1, h2, h3⟩ := h.kd
 obtain ⟨q1, q2, q3, q4⟩ := hq
 refine (kWho_any (expand_any HN HW (h3.gate s hs) s hs (fun h _ => queOk_of h nrules now) (que_sizesK s hs))).mono ?_
 rintro e w' ⟨o, n, c, er, rfl, hb, he, ys, rfl, hso2, hzl, hown, hz2⟩
 have e0 : er = 0 := by rw [he, q1, q2, q3]; rfl
 subst e0
 rw [if_pos rfl, q4] at hz2
 have hys : ys = zs := sorted_ext _ _ hso2 hso fun s => by rw [hz2, hz]
 subst hys
 refine ⟨o, c, rfl, ?_⟩
 have hl := h.later hb
 refine ⟨hl.kd, fun p hp => ?_, hl.below⟩
 rcases List.mem_cons.1 hp with e | e
 ·subst e
  refine ⟨owns_strT hown, fun k hk e => ?_⟩
  have hge := (owns_lt hown k hk).2.1
  have := row_lt h3.pg
  omega
 ·exact hl.rows p e
theorem x_check (HN : Hid NodeC) (HW : Hid TWayC) {W : World} {gb : Nat} {v : Int} {now : List ByteArray} {D : Dk} {Rs : List (Value × List ByteArray)} {w : World} (h : XSt W gb v now D Rs w) {s : ByteArray} {x : Nod} (hs : s.size <= maxLen) (hq : queOk s = true /\ queC s = true /\ hasR nrules (queX s) = true /\ queX s = x) (hn : ¬ ∃ u, InN (tsOf now) nrules u x /\ thT u = thT (queY s)) :
  Calls Tryz.prog 21 #[.pointer (some ⟨gb, 0, none⟩), .string s] w fun e w' => e = .returned (.tuple #[.bool false, .int .i64 0]) /\ XSt W gb v now D Rs w' := by
 obtain ⟨g, m, lo, R, Q, h1, h2, h3⟩ := h.kd
 obtain ⟨q1, q2, q3, q4⟩ := hq
 refine (check_any HN HW (h3.gate s hs) s hs (fun h _ => queOk_of h nrules now) (que_sizesK s hs)).mono ?_
 rintro e w' ⟨bo, er, rfl, hb, he, hbo⟩
 have e0 : er = 0 := by rw [he, q1, q2, q3]; rfl
 have e1 : bo = false := by
  cases bo with
  | false => rfl
  | true =>
   have := (hbo.1 rfl).2
   rw [q4] at this
   exact absurd this hn
 rw [e0, e1]
 exact ⟨rfl, h.later hb⟩
theorem x_write {W : World} {gb : Nat} {D : Dk} {Rs : List (Value × List ByteArray)} {w : World} (h : XSt W gb 1 nnow D Rs w) :
  Calls Tryz.prog 24 #[.pointer (some ⟨gb, 0, none⟩), .slice (some ⟨w.heap.size, 0, none⟩) 1 1] (w.alloc (.cells (strV nb1).toArray 9)) fun e w' => e = .returned (.tuple #[.int .i64 2, .int .i64 0, .int .i64 0]) /\ XSt W gb 2 nnow2 D Rs w' := by
 have hb2a : Below w.heap.size w (w.alloc (.cells (strV nb1).toArray 9)) := (Below.refl _ _).alloc (Nat.le_refl _) _
 have hl := h.later hb2a
 obtain ⟨g, m, lo, R, Q, hcl, hv, kd⟩ := hl.kd
 have hgl : gb < w.heap.size := by
  obtain ⟨g, m, lo, R, Q, -, -, kd0⟩ := h.kd
  exact row_lt kd0.pg
 refine ((kd.kg hcl).writeL (by rw [hv]; decide) (bs := nb1) (ys := nnow2) (by decide) (by decide) nb1_done (by decide) nnow2_sorted w.heap.size 1 (by omega) (fun i x hx => by rw [Nat.zero_add]; exact row_cell (alloc_new w (strV nb1) _) (strV_get hx))).mono ?_
 rintro e w3 ⟨rfl, hk, v, hvb, kg3⟩
 have kd3 := kd.wrote hk hvb kg3
 refine ⟨by rw [hv]; rfl, ⟨{ g with tv := v, ver := g.ver + 1 }, m, lo, R, Q, hcl, (by show g.ver + 1 = 2; rw [hv]; rfl), kd3⟩, fun p hp => ?_, ?_⟩
 ·obtain ⟨q1, q2⟩ := hl.rows p hp
  exact ⟨strT_to q1 fun k hk2 => hk.block k (strT_own q1 k hk2).1 (by intro e; injection e with e; exact q2 k hk2 e), q2⟩
 ·exact hl.below.grown hk hl.below.size (fun j hj => by injection hj with hj; rw [← hj]; exact kd.gB)
theorem x_same {W : World} {gb : Nat} {v : Int} {now : List ByteArray} {D : Dk} {Rs : List (Value × List ByteArray)} {w : World} (h : XSt W gb v now D Rs w) {u : Value} {zs : List ByteArray} (hu : (u, zs) ∈ Rs) (hzl : zs.length <= 100) :
  Calls Tryz.prog 25 #[u, .slice (some ⟨w.heap.size, 0, none⟩) zs.length zs.length] (w.alloc (.cells (strV zs).toArray 9)) fun e w' => e = .returned (.bool true) /\ XSt W gb v now D Rs w' := by
 have hb : Below w.heap.size w (w.alloc (.cells (strV zs).toArray 9)) := (Below.refl _ _).alloc (Nat.le_refl _) _
 have hl := h.later hb
 have hg : StrT (w.alloc (.cells (strV zs).toArray 9)) (.slice (some ⟨w.heap.size, 0, none⟩) zs.length zs.length) zs := Or.inr ⟨w.heap.size, zs.length, strV zs, rfl, alloc_new w (strV zs) _, List.take_of_length_le (by rw [strV_length]; exact Nat.le_refl _)⟩
 refine (g_same (hl.rows _ hu).1 hg hzl).mono ?_
 rintro e w' ⟨rfl, hb2⟩
 exact ⟨rfl, hl.later hb2⟩
theorem costN_one {xs now : List ByteArray} {x : Nod} {n m : Nat} (h : CostN xs now x n) (h2 : CostN xs now x m) : n = m := by
 obtain ⟨l, a1, a2, a3⟩ := h
 obtain ⟨k, b1, b2, b3⟩ := h2
 have e1 := nodup_sub_len l k a1 fun y hy => (b2 y).2 ((a2 y).1 hy)
 have e2 := nodup_sub_len k l b1 fun y hy => (a2 y).2 ((b2 y).1 hy)
 omega
theorem x_cost (HN : Hid NodeC) (HW : Hid TWayC) {W : World} {gb : Nat} {v : Int} {now : List ByteArray} {D : Dk} {Rs : List (Value × List ByteArray)} {w : World} (h : XSt W gb v now D Rs w) {s : ByteArray} {x : Nod} (hs : s.size <= maxLen) (hq : queOk s = true /\ hasR nrules (queX s) = true /\ queX s = x) {n : Nat} (hn : CostN nrules now x n) :
  Calls Tryz.prog 20 #[.pointer (some ⟨gb, 0, none⟩), .string s] w fun e w' => e = .returned (.tuple #[.int .i64 n, .int .i64 0]) /\ XSt W gb v now D Rs w' := by
 obtain ⟨g, m, lo, R, Q, h1, h2, h3⟩ := h.kd
 obtain ⟨q1, q3, q4⟩ := hq
 have he : askE nrules s = 0 := by unfold askE; rw [q1, q3]; rfl
 refine (cost_any HN HW (h3.gate s hs) s hs (fun h _ => queOk_of h nrules now) (que_sizesK s hs)).mono ?_
 intro e w' hp
 obtain ⟨met, h5, hb, hnd, hm, hml⟩ := costP_zero hp he
 have hcn : CostN nrules now x met.length := ⟨met, hnd, (by rw [← q4]; exact hm), rfl⟩
 rw [costN_one hn hcn]
 exact ⟨h5, h.later hb⟩
structure YSt (W : World) (gb : Nat) (D : Dk) (Ls : List (Nat × List Value)) (w : World) : Prop where
 kd : ∃ g m lo R Q, g.cl = false /\ g.ver = 1 /\ KD w W.heap.size gb g m lo nrules nnow R Q D /\ ∀ p ∈ Ls, w.heap[p.1]? = some (.cells p.2.toArray 51 (0, 0)) /\ ¬ Q p.1 /\ ¬ R p.1 /\ p.1 ≠ gb
 below : Below W.heap.size W w
theorem XSt.y {W : World} {gb : Nat} {D : Dk} {Rs : List (Value × List ByteArray)} {w : World} (h : XSt W gb 1 nnow D Rs w) : YSt W gb D [] w := by
 obtain ⟨g, m, lo, R, Q, h1, h2, h3⟩ := h.kd
 exact ⟨⟨g, m, lo, R, Q, h1, h2, h3, (fun p hp => by cases hp)⟩, h.below⟩
theorem YSt.later {W : World} {gb : Nat} {D : Dk} {Ls : List (Nat × List Value)} {w w' : World} (h : YSt W gb D Ls w) (hb : Below w.heap.size w w') : YSt W gb D Ls w' := by
 obtain ⟨g, m, lo, R, Q, h1, h2, h3, h4⟩ := h.kd
 exact ⟨⟨g, m, lo, R, Q, h1, h2, h3.later hb, fun p hp => ⟨(hb.block _ (row_lt (h4 p hp).1)).trans (h4 p hp).1, (h4 p hp).2⟩⟩, h.below.trans (hb.mono h.below.size)⟩
theorem YSt.add {W : World} {gb : Nat} {D : Dk} {Ls : List (Nat × List Value)} {w : World} (h : YSt W gb D Ls w) (vs : List Value) : YSt W gb D ((w.heap.size, vs) :: Ls) (w.alloc (.cells vs.toArray 51)) := by
 have hb : Below w.heap.size w (w.alloc (.cells vs.toArray 51)) := (Below.refl _ _).alloc (Nat.le_refl _) _
 have h' := h.later hb
 obtain ⟨g, m, lo, R, Q, h1, h2, h3, h4⟩ := h.kd
 refine ⟨⟨g, m, lo, R, Q, h1, h2, h3.later hb, fun p hp => ?_⟩, h'.below⟩
 rcases List.mem_cons.1 hp with e | e
 ·subst e
  refine ⟨alloc_new w vs _, fun e => ?_, fun e => ?_, ?_⟩
  ·have := h3.lt.1 _ e
   exact Nat.lt_irrefl _ this
  ·have := h3.ru.lt _ e
   exact Nat.lt_irrefl _ this
  ·have := row_lt h3.pg
   show w.heap.size ≠ gb
   omega
 ·exact ⟨(hb.block _ (row_lt (h4 p e).1)).trans (h4 p e).1, (h4 p e).2⟩
theorem YSt.get {W : World} {gb : Nat} {D : Dk} {Ls : List (Nat × List Value)} {w : World} (h : YSt W gb D Ls w) {b : Nat} {vs : List Value} (hp : (b, vs) ∈ Ls) : w.heap[b]? = some (.cells vs.toArray 51 (0, 0)) := by
 obtain ⟨g, m, lo, R, Q, h1, h2, h3, h4⟩ := h.kd
 exact (h4 _ hp).1
theorem YSt.op {W : World} {gb : Nat} {D : Dk} {Ls : List (Nat × List Value)} {w w' : World} {g : Pg} {m : List (Value × Value)} {lo : Nat} {R Q : Nat -> Prop} (hn : g.ver = 1) (hk : KD w W.heap.size gb g m lo nrules nnow R Q D) (hl : ∀ p ∈ Ls, w.heap[p.1]? = some (.cells p.2.toArray 51 (0, 0)) /\ ¬ Q p.1 /\ ¬ R p.1 /\ p.1 ≠ gb) (hb : Below W.heap.size W w) {Rel : Dk -> Prop} (ho : OpP w W.heap.size gb g m lo nrules nnow R Q false Rel w') : ∃ D', Rel D' /\ YSt W gb D' Ls w' := by
 obtain ⟨Q', D', hr, hk', hf, hQ⟩ := ho
 refine ⟨D', hr, ⟨⟨{ g with cl := false }, m, lo, R, Q', rfl, hn, hk', fun p hp => ?_⟩, ?_⟩⟩
 ·obtain ⟨h1, h2, h2R, h3⟩ := hl p hp
  refine ⟨(hf.block _ (row_lt h1) fun e => ?_).trans h1, fun e => ?_, h2R, h3⟩
  ·rcases e with e | e
   ·exact h2 e
   ·exact h3 e
  ·rcases hQ _ e with e | e
   ·exact h2 e
   ·have := row_lt h1; omega
 ·exact Frm.below hb hf hb.size fun k _ e => by
   rcases e with e | e
   ·exact hk.QB k e
   ·rw [e]; exact hk.gB
theorem x_submit (HN : Hid NodeC) {W : World} {gb : Nat} {D : Dk} {Ls : List (Nat × List Value)} {w : World} (h : YSt W gb D Ls w) {s : ByteArray} (hs : s.size <= maxLen) (he : askE nrules s = 0) {bud til : Int} (hb1 : 1 <= bud) (hb9 : bud <= 1000000000) (ht0 : 0 <= til) (ht9 : til <= 1000000000) (hfu : fullD D = false) :
  Calls Tryz.prog 27 #[.pointer (some ⟨gb, 0, none⟩), .string s, .int .i64 bud, .int .i64 til] w fun e w' => e = .returned (.tuple #[.int .i64 ((D.rs.length + 1 : Nat) : Int), .int .i64 0]) /\ YSt W gb (takeD D (tkOf nnow s bud til)) Ls w' := by
 obtain ⟨g, m, lo, R, Q, h1, h2, h3, h4⟩ := h.kd
 refine (gSubmit_ok HN h3 h1 hs he hb1 hb9 ht0 ht9 hfu).mono ?_
 rintro e w' ⟨rfl, ho⟩
 rw [h1] at ho
 obtain ⟨D', rfl, ht⟩ := YSt.op h2 h3 h4 h.below ho
 exact ⟨rfl, ht⟩
theorem x_step (HW : Hid TWayC) {W : World} {gb : Nat} {D : Dk} {Ls : List (Nat × List Value)} {w : World} (h : YSt W gb D Ls w) {i : Nat} (hi : i < D.wk.length) :
  Calls Tryz.prog 28 #[.pointer (some ⟨gb, 0, none⟩), .int .i64 i] w fun e w' => e = .returned (.int .i64 0) /\ ∃ D', DStep nrules D i D' /\ YSt W gb D' Ls w' := by
 obtain ⟨g, m, lo, R, Q, h1, h2, h3, h4⟩ := h.kd
 refine (gStep_ok HW h3 h1 hi).mono ?_
 rintro e w' ⟨rfl, ho⟩
 rw [h1] at ho
 obtain ⟨D', hr, ht⟩ := YSt.op h2 h3 h4 h.below ho
 exact ⟨rfl, D', hr, ht⟩
theorem x_poll {W : World} {gb : Nat} {D : Dk} {Ls : List (Nat × List Value)} {w : World} (h : YSt W gb D Ls w) (id : Int) :
  Calls Tryz.prog 29 #[.pointer (some ⟨gb, 0, none⟩), .int .i64 id] w fun e w' => ∃ o c, e = .returned (.agg #[.int .i64 (pollR D id).is, .int .i64 (pollR D id).st, .bool (pollR D id).al, .slice o (pollR D id).us.length c]) /\ YSt W gb D Ls w' := by
 obtain ⟨g, m, lo, R, Q, h1, h2, h3, h4⟩ := h.kd
 refine (gPoll_below h3 id).mono ?_
 rintro e w' ⟨o, c, rfl, how, hb⟩
 exact ⟨o, c, rfl, h.later hb⟩
def NkF (W : World) (gb : Nat) (Ls : List (Nat × List Value)) (P : Dk -> Prop) (w : World) : Prop := ∃ D, P D /\ YSt W gb D Ls w
def uxB : ByteArray := ⟨#[117, 115, 101, 114, 58, 120]⟩
def uyB : ByteArray := ⟨#[117, 115, 101, 114, 58, 121]⟩
def d1B : ByteArray := ⟨#[100, 111, 99, 58, 49]⟩
theorem nso1 : Sorted [uxB] := by unfold Sorted uxB; decide +kernel
theorem nso2 : Sorted [uxB, uyB] := by unfold Sorted uxB uyB; decide +kernel
theorem nso3 : Sorted [d1B] := by unfold Sorted d1B; decide +kernel
theorem nk_first (HN : Hid NodeC) (HW : Hid TWayC) {w : World} {gb : Nat} {w3 : World} (h : XSt w gb 1 nnow (newD 2 2) [] w3) :
  Calls Tryz.prog 19 #[.pointer (some ⟨gb, 0, none⟩), .string nqg] w3 fun e w4 => ∃ o1 c1, e = .returned (.tuple #[.slice o1 1 c1, .bool true]) /\
  Hid (Calls Tryz.prog 19 #[.pointer (some ⟨gb, 0, none⟩), .string nqr] w4 fun e w5 => ∃ o2 c2, e = .returned (.tuple #[.slice o2 2 c2, .bool true]) /\
  Hid (Calls Tryz.prog 19 #[.pointer (some ⟨gb, 0, none⟩), .string nqp] w5 fun e w6 => ∃ o3 c3, e = .returned (.tuple #[.slice o3 1 c3, .bool true]) /\
  Hid (Calls Tryz.prog 19 #[.pointer (some ⟨gb, 0, none⟩), .string nqe] w6 fun e w7 => ∃ o4 c4, e = .returned (.tuple #[.slice o4 0 c4, .bool true]) /\
  Hid (Calls Tryz.prog 21 #[.pointer (some ⟨gb, 0, none⟩), .string nqc] w7 fun e w8 => e = .returned (.tuple #[.bool false, .int .i64 0]) /\
  Hid (Calls Tryz.prog 24 #[.pointer (some ⟨gb, 0, none⟩), .slice (some ⟨w8.heap.size, 0, none⟩) 1 1] (w8.alloc (.cells (strV nb1).toArray 9)) fun e w9 => e = .returned (.tuple #[.int .i64 2, .int .i64 0, .int .i64 0]) /\
  Hid (Calls Tryz.prog 19 #[.pointer (some ⟨gb, 0, none⟩), .string nqe] w9 fun e wa => ∃ o5 c5, e = .returned (.tuple #[.slice o5 1 c5, .bool true]) /\
  Hid (Calls Tryz.prog 25 #[.slice o1 1 c1, .slice (some ⟨wa.heap.size, 0, none⟩) 1 1] (wa.alloc (.cells (strV [uxB]).toArray 9)) fun e wb => e = .returned (.bool true) /\
  Hid (Calls Tryz.prog 25 #[.slice o2 2 c2, .slice (some ⟨wb.heap.size, 0, none⟩) 2 2] (wb.alloc (.cells (strV [uxB, uyB]).toArray 9)) fun e wc => e = .returned (.bool true) /\
  Hid (Calls Tryz.prog 25 #[.slice o3 1 c3, .slice (some ⟨wc.heap.size, 0, none⟩) 1 1] (wc.alloc (.cells (strV [d1B]).toArray 9)) fun e wd => e = .returned (.bool true) /\
  Hid (Calls Tryz.prog 25 #[.slice o5 1 c5, .slice (some ⟨wd.heap.size, 0, none⟩) 1 1] (wd.alloc (.cells (strV [uxB]).toArray 9)) fun e we => e = .returned (.bool true) /\ Hid (Below w.heap.size w we))))))))))) := by
 refine (x_who HN HW h (by unfold maxLen; decide) nqg_ok [uxB] nso1 nw_g).mono ?_
 rintro e w4 ⟨o1, c1, he4, h4⟩
 refine ⟨o1, c1, he4, ?_⟩
 refine (x_who HN HW h4 (by unfold maxLen; decide) nqr_ok [uxB, uyB] nso2 nw_r).mono ?_
 rintro e w5 ⟨o2, c2, he5, h5⟩
 refine ⟨o2, c2, he5, ?_⟩
 refine (x_who HN HW h5 (by unfold maxLen; decide) nqp_ok [d1B] nso3 nw_p).mono ?_
 rintro e w6 ⟨o3, c3, he6, h6⟩
 refine ⟨o3, c3, he6, ?_⟩
 refine (x_who HN HW h6 (by unfold maxLen; decide) nqe_ok [] List.Pairwise.nil nw_e).mono ?_
 rintro e w7 ⟨o4, c4, he7, h7⟩
 refine ⟨o4, c4, he7, ?_⟩
 refine (x_check HN HW h7 (by unfold maxLen; decide) nqc_ok (by rw [nqc_y]; exact nchk_no)).mono ?_
 rintro e w8 ⟨he8, h8⟩
 refine ⟨he8, ?_⟩
 refine (x_write h8).mono ?_
 rintro e w9 ⟨he9, h9⟩
 refine ⟨he9, ?_⟩
 refine (x_who HN HW h9 (by unfold maxLen; decide) nqe_ok [uxB] nso1 nw_e2).mono ?_
 rintro e wa ⟨o5, c5, hea, ha⟩
 refine ⟨o5, c5, hea, ?_⟩
 refine (x_same ha (u := .slice o1 1 c1) (zs := [uxB]) (by simp) (by decide)).mono ?_
 rintro e wb ⟨heb, hb⟩
 refine ⟨heb, ?_⟩
 refine (x_same hb (u := .slice o2 2 c2) (zs := [uxB, uyB]) (by simp) (by decide)).mono ?_
 rintro e wc ⟨hec, hc⟩
 refine ⟨hec, ?_⟩
 refine (x_same hc (u := .slice o3 1 c3) (zs := [d1B]) (by simp) (by decide)).mono ?_
 rintro e wd ⟨hed, hd⟩
 refine ⟨hed, ?_⟩
 refine (x_same hd (u := .slice o5 1 c5) (zs := [uxB]) (by simp) (by decide)).mono ?_
 rintro e we ⟨hee, he⟩
 exact ⟨hee, he.below⟩
theorem nk_second (HN : Hid NodeC) (HW : Hid TWayC) {w : World} {gb : Nat} {w3 : World} (h : XSt w gb 1 nnow (newD 2 2) [] w3) :
  Calls Tryz.prog 20 #[.pointer (some ⟨gb, 0, none⟩), .string nqg] w3 fun e w4 => e = .returned (.tuple #[.int .i64 2, .int .i64 0]) /\
  Hid (Calls Tryz.prog 20 #[.pointer (some ⟨gb, 0, none⟩), .string nqr] w4 fun e w5 => e = .returned (.tuple #[.int .i64 6, .int .i64 0]) /\ Hid (Below w.heap.size w w5)) := by
 refine (x_cost HN HW h (by unfold maxLen; decide) ⟨nqg_ok.1, nqg_ok.2.2⟩ ng_cost).mono ?_
 rintro e w4 ⟨he4, h4⟩
 refine ⟨he4, ?_⟩
 refine (x_cost HN HW h4 (by unfold maxLen; decide) ⟨nqr_ok.1, nqr_ok.2.2⟩ nr_cost).mono ?_
 rintro e w5 ⟨he5, h5⟩
 exact ⟨he5, h5.below⟩
theorem nqu_e : askE nrules nqu = 0 := by decide +kernel
def stK (is st : Int) (al : Bool) (v : Value) : List Value := [.int .i64 is, .int .i64 st, .bool al, v]
theorem nk_put0 (HN : Hid NodeC) {w : World} {gb : Nat} {w3 : World} (h : XSt w gb 1 nnow (newD 2 2) [] w3) :
  Calls Tryz.prog 27 #[.pointer (some ⟨gb, 0, none⟩), .string nqu, .int .i64 6, .int .i64 10] w3 fun e w4 => e = .returned (.tuple #[.int .i64 1, .int .i64 0]) /\ Hid (NkF w gb [] (KnT nrules nt0 0 6 0 []) w4) := by
 obtain ⟨f1, f2⟩ := nk_begin
 refine (x_submit HN h.y (by unfold maxLen; decide) nqu_e (bud := 6) (til := 10) (by decide) (by decide) (by decide) (by decide) f1).mono ?_
 rintro e w4 ⟨he4, h4⟩
 exact ⟨he4, _, f2, h4⟩
theorem nk_step0 (HW : Hid TWayC) {w : World} {gb : Nat} {wr : World} {k : Nat} (h : NkF w gb [] (KnT nrules nt0 0 6 k []) wr) :
  Calls Tryz.prog 28 #[.pointer (some ⟨gb, 0, none⟩), .int .i64 0] wr fun e w1 => e = .returned (.int .i64 0) /\ Hid (NkF w gb [] (KnT nrules nt0 0 6 (k + 1) []) w1) := by
 obtain ⟨D, hT, hp0⟩ := h
 refine (x_step HW hp0 (i := 0) (by rw [hT.workers]; decide)).mono ?_
 rintro e w1 ⟨he1, D1, hd1, hp1⟩
 exact ⟨he1, D1, hT.step nt0_cost (by decide) hd1, hp1⟩
theorem nk_mid0 (HN : Hid NodeC) {w : World} {gb : Nat} {wr : World} (h : NkF w gb [] (KnT nrules nt0 0 6 6 []) wr) :
  Calls Tryz.prog 29 #[.pointer (some ⟨gb, 0, none⟩), .int .i64 1] wr fun e w1 => ∃ o c n, e = .returned (.agg #[.int .i64 3, .int .i64 6, .bool true, .slice o n c]) /\
  Hid (Calls Tryz.prog 27 #[.pointer (some ⟨gb, 0, none⟩), .string nqu, .int .i64 5, .int .i64 10] (w1.alloc (.cells #[.int .i64 3, .int .i64 6, .bool true, .slice o n c] 51)) fun e w4 => e = .returned (.tuple #[.int .i64 2, .int .i64 0]) /\ Hid (∃ a, NkF w gb [(w1.heap.size, stK 3 6 true (.slice o n c))] (KnT nrules nt1 1 6 0 [a]) w4)) := by
 obtain ⟨D, hT, hp0⟩ := h
 obtain ⟨q1, q2, q3, q4, q5, a, q6⟩ := nk_mid hT
 refine (x_poll hp0 1).mono ?_
 rintro e w1 ⟨o, c, he, hp1⟩
 rw [q1, q2, q3] at he
 refine ⟨o, c, _, he, ?_⟩
 refine (x_submit HN (hp1.add (stK 3 6 true (.slice o (pollR D 1).us.length c))) (by unfold maxLen; decide) nqu_e (bud := 5) (til := 10) (by decide) (by decide) (by decide) (by decide) q5).mono ?_
 rintro e w4 ⟨he4, h4⟩
 rw [q4] at he4
 exact ⟨he4, a, _, q6, h4⟩
theorem nk_step1 (HW : Hid TWayC) {w : World} {gb : Nat} {Ls : List (Nat × List Value)} {wr : World} {k : Nat} (h : ∃ a, NkF w gb Ls (KnT nrules nt1 1 6 k [a]) wr) :
  Calls Tryz.prog 28 #[.pointer (some ⟨gb, 0, none⟩), .int .i64 1] wr fun e w1 => e = .returned (.int .i64 0) /\ Hid (∃ a, NkF w gb Ls (KnT nrules nt1 1 6 (k + 1) [a]) w1) := by
 obtain ⟨a, D, hT, hp0⟩ := h
 refine (x_step HW hp0 (i := 1) (by rw [hT.workers]; decide)).mono ?_
 rintro e w1 ⟨he1, D1, hd1, hp1⟩
 exact ⟨he1, a, D1, hT.step nt1_cost (by decide) hd1, hp1⟩
theorem nk_end1 {w : World} {gb : Nat} {b : Nat} {o : Option Addr} {n c : Nat} {wr : World} (h : ∃ a, NkF w gb [(b, stK 3 6 true (.slice o n c))] (KnT nrules nt1 1 6 9 [a]) wr) :
  Calls Tryz.prog 29 #[.pointer (some ⟨gb, 0, none⟩), .int .i64 2] wr fun e w1 => ∃ o1 c1 n1, e = .returned (.agg #[.int .i64 4, .int .i64 5, .bool false, .slice o1 n1 c1]) /\ b < w1.heap.size /\ (∀ ob, (w1.alloc ob).cell? ⟨b, 0, none⟩ = some (.int .i64 3)) /\ (∀ ob, (w1.alloc ob).cell? ⟨b, 1, none⟩ = some (.int .i64 6)) /\ (∀ ob, (w1.alloc ob).cell? ⟨b, 2, none⟩ = some (.bool true)) /\ Hid (Below w.heap.size w w1) := by
 obtain ⟨a, D, hT, hp0⟩ := h
 obtain ⟨q1, q2, q3⟩ := nk_end hT
 refine (x_poll hp0 2).mono ?_
 rintro e w1 ⟨o, c, he, hp1⟩
 rw [q1, q2, q3] at he
 have hg := hp1.get (List.mem_cons_self ..)
 have hl := row_lt hg
 have ha : ∀ ob, (w1.alloc ob).heap[b]? = some (.cells (stK 3 6 true (.slice _ _ _)).toArray 51 (0, 0)) := fun ob => (((Below.refl _ _).alloc (Nat.le_refl _) ob : Below w1.heap.size w1 (w1.alloc ob)).block _ hl).trans hg
 exact ⟨o, c, _, he, hl, fun ob => row_cell (ha ob) (j := 0) rfl, fun ob => row_cell (ha ob) (j := 1) rfl, fun ob => row_cell (ha ob) (j := 2) rfl, hp1.below⟩
def PickIs (c k : Int) : Prop := ∀ w1, Calls Tryz.prog 17 #[.int .i64 c, .int .i64 3] w1 fun e w' => e = .returned (.int .i64 k) /\ w' = w1
theorem known_0 (HN : Hid NodeC) (HW : Hid TWayC) (w : World) (c : Int) (HPK : Hid (PickIs c 0)) :
  Calls Tryz.prog 9 #[.int .i64 c] w fun e w' => e = .returned (.bool true) /\ Below w.heap.size w w' := by
 have HOP : Hid _ := x_open w
 have HF : Hid (∀ gb w3, XSt w gb 1 nnow (newD 2 2) [] w3 -> Calls Tryz.prog 19 #[.pointer (some ⟨gb, 0, none⟩), .string nqg] w3 _) := fun gb w3 h => nk_first HN HW h
 clear HN HW
 go_enter Tryz.func9, Tryz.ntmps9
 go_wp2_with (first
  | (go_at_call 26; refine (Calls.mono HOP.out) ?_; rintro e w2 ⟨gb, rfl, HWR⟩; clear HOP)
  | (go_at_call 24; refine (Calls.mono HWR.out) ?_; rintro e w3 ⟨rfl, HX⟩; clear HWR; have HS1 : Hid _ := HF.out gb w3 HX.out; clear HF HX)
  | (go_at_call 17; refine (HPK.out _).mono ?_; rintro e wq ⟨rfl, hwq⟩; subst wq)
  | (go_at_call 19; refine (Calls.mono HS1.out) ?_; rintro e w4 ⟨o1, c1, rfl, HS2⟩; clear HS1)
  | (go_at_call 19; refine (Calls.mono HS2.out) ?_; rintro e w5 ⟨o2, c2, rfl, HS3⟩; clear HS2)
  | (go_at_call 19; refine (Calls.mono HS3.out) ?_; rintro e w6 ⟨o3, c3, rfl, HS4⟩; clear HS3)
  | (go_at_call 19; refine (Calls.mono HS4.out) ?_; rintro e w7 ⟨o4, c4, rfl, HS5⟩; clear HS4)
  | (go_at_call 21; refine (Calls.mono HS5.out) ?_; rintro e w8 ⟨rfl, HS6⟩; clear HS5)
  | (go_at_call 24; refine (Calls.mono HS6.out) ?_; rintro e w9 ⟨rfl, HS7⟩; clear HS6)
  | (go_at_call 19; refine (Calls.mono HS7.out) ?_; rintro e wa ⟨o5, c5, rfl, HS8⟩; clear HS7)
  | (go_at_call 25; refine (Calls.mono HS8.out) ?_; rintro e wb ⟨rfl, HS9⟩; clear HS8)
  | (go_at_call 25; refine (Calls.mono HS9.out) ?_; rintro e wc ⟨rfl, HSa⟩; clear HS9)
  | (go_at_call 25; refine (Calls.mono HSa.out) ?_; rintro e wd ⟨rfl, HSb⟩; clear HSa)
  | (go_at_call 25; refine (Calls.mono HSb.out) ?_; rintro e we ⟨rfl, HB⟩; clear HSb))
 go_ret
 exact ⟨rfl, HB.out⟩
theorem known_1 (HN : Hid NodeC) (HW : Hid TWayC) (w : World) (c : Int) (HPK : Hid (PickIs c 1)) :
  Calls Tryz.prog 9 #[.int .i64 c] w fun e w' => e = .returned (.bool true) /\ Below w.heap.size w w' := by
 have HOP : Hid _ := x_open w
 have HF : Hid (∀ gb w3, XSt w gb 1 nnow (newD 2 2) [] w3 -> Calls Tryz.prog 20 #[.pointer (some ⟨gb, 0, none⟩), .string nqg] w3 _) := fun gb w3 h => nk_second HN HW h
 clear HN HW
 go_enter Tryz.func9, Tryz.ntmps9
 go_wp2_with (first
  | (go_at_call 26; refine (Calls.mono HOP.out) ?_; rintro e w2 ⟨gb, rfl, HWR⟩; clear HOP)
  | (go_at_call 24; refine (Calls.mono HWR.out) ?_; rintro e w3 ⟨rfl, HX⟩; clear HWR; have HS1 : Hid _ := HF.out gb w3 HX.out; clear HF HX)
  | (go_at_call 17; refine (HPK.out _).mono ?_; rintro e wq ⟨rfl, hwq⟩; subst wq)
  | (go_at_call 20; refine (Calls.mono HS1.out) ?_; rintro e w4 ⟨rfl, HS2⟩; clear HS1)
  | (go_at_call 20; refine (Calls.mono HS2.out) ?_; rintro e w5 ⟨rfl, HB⟩; clear HS2))
 go_ret
 exact ⟨rfl, HB.out⟩
theorem known_2 (HN : Hid NodeC) (HW : Hid TWayC) (w : World) (c : Int) (HPK : Hid (PickIs c 2)) :
  Calls Tryz.prog 9 #[.int .i64 c] w fun e w' => e = .returned (.bool true) /\ Below w.heap.size w w' := by
 have HOP : Hid _ := x_open w
 have HF : Hid (∀ gb w3, XSt w gb 1 nnow (newD 2 2) [] w3 -> Calls Tryz.prog 27 #[.pointer (some ⟨gb, 0, none⟩), .string nqu, .int .i64 6, .int .i64 10] w3 _) := fun gb w3 h => nk_put0 HN h
 have HA : Hid (∀ gb wr k, NkF w gb [] (KnT nrules nt0 0 6 k []) wr -> Calls Tryz.prog 28 #[.pointer (some ⟨gb, 0, none⟩), .int .i64 0] wr _) := fun gb wr k h => nk_step0 HW h
 have HM : Hid (∀ gb wr, NkF w gb [] (KnT nrules nt0 0 6 6 []) wr -> Calls Tryz.prog 29 #[.pointer (some ⟨gb, 0, none⟩), .int .i64 1] wr _) := fun gb wr h => nk_mid0 HN h
 have HC : Hid (∀ gb Ls wr k, (∃ a, NkF w gb Ls (KnT nrules nt1 1 6 k [a]) wr) -> Calls Tryz.prog 28 #[.pointer (some ⟨gb, 0, none⟩), .int .i64 1] wr _) := fun gb Ls wr k h => nk_step1 HW h
 have HE : Hid (∀ gb b o n c wr, (∃ a, NkF w gb [(b, stK 3 6 true (.slice o n c))] (KnT nrules nt1 1 6 9 [a]) wr) -> Calls Tryz.prog 29 #[.pointer (some ⟨gb, 0, none⟩), .int .i64 2] wr _) := fun gb b o n c wr h => nk_end1 h
 clear HN HW
 go_enter Tryz.func9, Tryz.ntmps9
 go_wp2_with (first
  | (go_at_call 26; refine (Calls.mono HOP.out) ?_; rintro e w2 ⟨gb, rfl, HWR⟩; clear HOP)
  | (go_at_call 24; refine (Calls.mono HWR.out) ?_; rintro e w3 ⟨rfl, HX⟩; clear HWR; have HS1 : Hid _ := HF.out gb w3 HX.out; clear HF HX)
  | (go_at_call 17; refine (HPK.out _).mono ?_; rintro e wq ⟨rfl, hwq⟩; subst wq)
  | (go_at_call 27; refine (Calls.mono HS1.out) ?_; rintro e w4 ⟨rfl, HG⟩; clear HS1))
 go_loopw [34] (fun i wr => ∃ q : Nat, i = .int .i64 q /\ q <= 6 /\ NkF w gb [] (KnT nrules nt0 0 6 q []) wr) (fun i _ => 6 - (intOf i).toNat)
 case atStart => exact ⟨0, rfl, Nat.zero_le _, HG.out⟩
 case round =>
  obtain ⟨q, rfl, hq, hF⟩ := hrel
  have HG1 : Hid (NkF w gb [] (KnT nrules nt0 0 6 q []) wr) := hF
  clear hF HG
  by_cases hlt : q < 6
  ·have HR1 : Hid _ := HA.out gb wr q HG1.out
   clear HG1 HA HM HC HE
   go_wp2_with (go_at_call 28; refine (Calls.mono HR1.out) ?_; rintro e w14 ⟨rfl, HG2⟩; clear HR1)
   go_roundw
   case rel => exact ⟨q + 1, by go_num, by omega, HG2.out⟩
   case measure => simp [intOf]; omega
  ·have hqe : q = 6 := by omega
   have HM1 : Hid _ := HM.out gb wr (hqe ▸ HG1.out)
   clear HG1 HA HM
   have HQE : Hid (q = 6) := hqe
   clear hqe
   go_wp2_with (first
    | (go_at_call 29; refine (Calls.mono HM1.out) ?_; rintro e w5 ⟨o, c5, n5, rfl, HM2⟩; clear HM1)
    | (go_at_call 27; refine (Calls.mono HM2.out) ?_; rintro e w6 ⟨rfl, HG3⟩; clear HM2))
   go_loopw [38] (fun i w9 => ∃ t : Nat, i = .int .i64 t /\ t <= 9 /\ ∃ a, NkF w gb [(w5.heap.size, stK 3 6 true (.slice o n5 c5))] (KnT nrules nt1 1 6 t [a]) w9) (fun i _ => 9 - (intOf i).toNat)
   case atStart => exact ⟨0, rfl, Nat.zero_le _, HG3.out⟩
   case round =>
    obtain ⟨t, rfl, ht, hF4⟩ := hrel
    have HG4 : Hid (∃ a, NkF w gb [(w5.heap.size, stK 3 6 true (.slice o n5 c5))] (KnT nrules nt1 1 6 t [a]) wr) := hF4
    clear hF4 HG3
    by_cases hlt3 : t < 9
    ·have HR1 : Hid _ := HC.out gb _ wr t HG4.out
     clear HG4 HC HE
     go_wp2_with (go_at_call 28; refine (Calls.mono HR1.out) ?_; rintro e w16 ⟨rfl, HG5⟩; clear HR1)
     go_roundw
     case rel => exact ⟨t + 1, by go_num, by omega, HG5.out⟩
     case measure => simp [intOf]; omega
    ·have hte : t = 9 := by omega
     have HL1 : Hid _ := HE.out gb _ _ _ _ wr (hte ▸ HG4.out)
     clear HG4 HC HE hte
     go_wp2_with (go_at_call 29; refine (Calls.mono HL1.out) ?_; rintro e w17 ⟨o6, c6, n6, rfl, hlt6, f0, f1, f2, HB⟩; clear HL1)
     go_ret
     exact ⟨rfl, HB.out.trans ((Below.refl _ _).alloc HB.out.size _)⟩
theorem pickK (c : Int) (h1 : -9223372036854775808 <= c) (h2 : c <= 9223372036854775807) : PickIs c 0 \/ PickIs c 1 \/ PickIs c 2 := by
 obtain ⟨b1, b2⟩ := pickN_bd c 3 (by omega)
 have hpk : ∀ w1, Calls Tryz.prog 17 #[.int .i64 c, .int .i64 3] w1 fun e w' => e = .returned (.int .i64 (pickN c 3)) /\ w' = w1 := fun w1 => kPick_any c 3 w1 h1 h2 (by omega) (by omega)
 have h3 : pickN c 3 = 0 \/ pickN c 3 = 1 \/ pickN c 3 = 2 := by omega
 rcases h3 with e | e | e
 ·exact Or.inl fun w1 => by rw [e] at hpk; exact hpk w1
 ·exact Or.inr (Or.inl fun w1 => by rw [e] at hpk; exact hpk w1)
 ·exact Or.inr (Or.inr fun w1 => by rw [e] at hpk; exact hpk w1)
theorem known_any (hN : NodeC) (hW : TWayC) (w : World) (c : Int) (h1 : -9223372036854775808 <= c) (h2 : c <= 9223372036854775807) :
  Calls Tryz.prog 9 #[.int .i64 c] w fun e w' => e = .returned (.bool true) /\ Below w.heap.size w w' := by
 rcases pickK c h1 h2 with h | h | h
 ·exact known_0 hN hW w c h
 ·exact known_1 hN hW w c h
 ·exact known_2 hN hW w c h
end Go.Proofs.YtalmoiogbdahcaaGreat
