import Derived.Test.YtalmoiogbdahcaaGreatYRefI
import Derived.Test.YtalmoiogbdahcaaGreatYLibF
import Derived.Test.YtalmoiogbdahcaaGreatYSrtA
import Derived.Lib.OwnBridge
import Derived.Sort.OwnSorted
namespace Go.Proofs.YtalmoiogbdahcaaGreat
set_option maxRecDepth 100000
set_option maxHeartbeats 8000000
open Go.RowKit Go.Sort Go.Shelf
theorem mkB (b : ByteArray) : (⟨b.data.toList.toArray⟩ : ByteArray) = b := by cases b; simp
theorem enc_map (ys : List ByteArray) : (ys.map fun b => b.data.toList).map encStr = strV ys := by
 unfold strV
 rw [List.map_map]
 refine List.map_congr_left fun b _ => ?_
 show Value.string ⟨b.data.toList.toArray⟩ = _
 rw [mkB]
theorem sort_any (w : World) (base : Nat) (v : Value) (ys : List ByteArray) (hown : w.ownsRow base 9 1 v ys.length (strV ys)) (hn : ys.Nodup) (hl : ys.length <= 1000) :
  Calls Tryz.prog 131 #[v] w fun e w' => e = .returned (.tuple #[]) /\ ∃ zs, (∀ s, s ∈ zs ↔ s ∈ ys) /\ zs.length = ys.length /\ Sorted zs /\ w'.ownsRow base 9 1 v zs.length (strV zs) /\ w.grownBy w' v.ownBlock := by
 rcases hown.2 with ⟨rfl, h0⟩ | ⟨g, cap, cur, rfl, hbase, hg, h1, h2, h3, h4⟩
 ·have hys : ys = [] := List.eq_nil_of_length_eq_zero h0
  subst hys
  refine (AnyM.slices_Sort_string_none Tryz.sortS none 0 w).mono ?_
  rintro e w' ⟨he, rfl⟩
  exact ⟨he, [], fun s => Iff.rfl, rfl, List.Pairwise.nil, World.ownsRow_nil _ _ _ _, ⟨rfl, rfl, rfl, Nat.le_refl _, fun _ _ _ => rfl⟩⟩
 ·obtain ⟨ss, hss⟩ : ∃ ss, ss = ys.map fun b => b.data.toList := ⟨_, rfl⟩
  have hsl : ss.length = ys.length := by rw [hss, List.length_map]
  have hown2 : w.ownsRow base 9 1 (.slice (some ⟨g, 0, none⟩) ys.length cap) ys.length (ss.map encStr) := by rw [hss, enc_map]; exact hown
  obtain ⟨g', cap', e1, -, hgl, -, -, -, hH⟩ := Lib.holds_of_ownsRow hown2 (by intro e; cases e)
  have eg : g = g' := by injection e1 with e1; injection e1 with e1; injection e1 with e1
  subst eg
  have hc := AnyM.slices_Sort_string Tryz.sortS g 0 cap ss w hH hgl (by omega)
  rw [hsl] at hc
  refine hc.mono ?_
  rintro e w' ⟨he, n, os, rfl⟩
  obtain ⟨ms, hms⟩ : ∃ ms, ms = ss.mergeSort fun x y => decide (x <= y) := ⟨_, rfl⟩
  have hperm : ms.Perm ss := by rw [hms]; exact List.mergeSort_perm _ _
  have hml : ms.length = ys.length := hperm.length_eq.trans hsl
  have hback : ms.map encStr = strV (ms.map fun l => (⟨l.toArray⟩ : ByteArray)) := by
   unfold strV; rw [List.map_map]; rfl
  have hpw : ms.Pairwise fun x y => decide (x <= y) = true := by
   rw [hms]
   exact List.pairwise_mergeSort (fun a b c h1 h2 => by simp at *; exact List.le_trans h1 h2) (fun a b => by simp; exact List.le_total a b) ss
  have hnd : ms.Nodup := by
   refine hperm.symm.nodup ?_
   rw [hss]
   exact List.pairwise_map.2 (hn.imp fun h e => h (ByteArray.ext (Array.ext' e)))
  refine ⟨he, ms.map fun l => (⟨l.toArray⟩ : ByteArray), fun s => ?_, by rw [List.length_map]; exact hml, ?_, ?_, ?_⟩
  ·rw [List.mem_map]
   constructor
   ·rintro ⟨l, hl, rfl⟩
    have h5 := hperm.mem_iff.1 hl
    rw [hss] at h5
    obtain ⟨b, hb, rfl⟩ := List.mem_map.1 h5
    rw [mkB]; exact hb
   ·intro hs
    refine ⟨s.data.toList, hperm.mem_iff.2 (by rw [hss]; exact List.mem_map.2 ⟨s, hs, rfl⟩), mkB s⟩
  ·unfold Sorted
   rw [List.pairwise_map]
   refine (hpw.and hnd).imp ?_
   rintro a b ⟨h5, h6⟩
   rw [ltB_iff]
   have h7 : a <= b := by simpa using h5
   show (⟨a.toArray⟩ : ByteArray).data.toList < (⟨b.toArray⟩ : ByteArray).data.toList
   show a < b
   rcases Classical.em (a < b) with h8 | h8
   ·exact h8
   ·exact absurd (List.le_antisymm h7 (List.not_lt.1 h8)) h6
  ·rw [List.length_map, ← hback, hml]
   have := ownsRow_sorted (os := os) (n := n) (ss := ss) (ts := ms) (by rw [hml, hsl]) hbase hg (by rw [hsl]; exact h1) h2 h3
   rw [hsl] at this
   rw [← hms]
   exact this
  ·exact grownBy_sorted _
open Go.RowKit
theorem ltB_no {a b : ByteArray} (h1 : ltB a b = true) (h2 : ltB b a = true) : False := by
 rw [ltB_iff] at h1 h2
 exact List.lt_irrefl _ (List.lt_trans h1 h2)
theorem sorted_ext : ∀ (zs ws : List ByteArray), Sorted zs -> Sorted ws -> (∀ s, s ∈ zs ↔ s ∈ ws) -> zs = ws := by
 intro zs
 induction zs with
 | nil =>
  intro ws _ _ h
  cases ws with
  | nil => rfl
  | cons b m => exact absurd ((h b).2 (by simp)) (by simp)
 | cons a l ih =>
  intro ws hz hw h
  cases ws with
  | nil => exact absurd ((h a).1 (by simp)) (by simp)
  | cons b m =>
   obtain ⟨hz1, hz2⟩ := List.pairwise_cons.1 hz
   obtain ⟨hw1, hw2⟩ := List.pairwise_cons.1 hw
   have e : a = b := by
    rcases List.mem_cons.1 ((h a).1 (by simp)) with e | e
    ·exact e
    ·rcases List.mem_cons.1 ((h b).2 (by simp)) with e2 | e2
     ·exact e2.symm
     ·exact (ltB_no (hz1 b e2) (hw1 a e)).elim
   subst e
   rw [ih m hz2 hw2 fun s => ?_]
   constructor
   ·intro hs
    rcases List.mem_cons.1 ((h s).1 (List.mem_cons_of_mem _ hs)) with e | e
    ·rw [e] at hs; exact (ltB_no (hz1 a hs) (hz1 a hs)).elim
    ·exact e
   ·intro hs
    rcases List.mem_cons.1 ((h s).2 (List.mem_cons_of_mem _ hs)) with e | e
    ·rw [e] at hs; exact (ltB_no (hw1 a hs) (hw1 a hs)).elim
    ·exact e
end Go.Proofs.YtalmoiogbdahcaaGreat
