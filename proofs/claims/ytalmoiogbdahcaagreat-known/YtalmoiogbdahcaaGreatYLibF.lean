import Derived.Test.YtalmoiogbdahcaaGreatYRefH
import Derived.Test.YtalmoiogbdahcaaGreatYLibE
import Derived.Sort.Walk0
namespace Go.Proofs.YtalmoiogbdahcaaGreat
set_option maxRecDepth 100000
set_option maxHeartbeats 8000000
open Go.RowKit
theorem search_nil (t : ByteArray) (w : World) : Calls Tryz.prog 100 #[.slice none 0 0, .string t] w fun e w' => e = .returned (.tuple #[.int .i64 0, .bool false]) /\ w' = w := by
 go_enter Tryz.func100, Tryz.ntmps100
 go_wp2
 refine wp_loop_rounds 1 ?_
 rw [rounds_succ]
 go_wp2
 exact bodyPost_ret (v := .tuple #[.int .i64 0, .bool false]) (by simp [results, Tryz.results100, go_sem]) rfl ⟨rfl, rfl⟩
def Sorted (xs : List ByteArray) : Prop := xs.Pairwise fun a b => ltB a b = true
theorem ltB_iff (a b : ByteArray) : ltB a b = true ↔ a.data.toList < b.data.toList := by
 unfold ltB; rw [Lib.toList_data, Lib.toList_data, bytesLess_eq]; simp
theorem ltB_irrefl (a : ByteArray) : ltB a a = false := by
 cases h : ltB a a
 ·rfl
 ·exact absurd ((ltB_iff a a).1 h) (List.lt_irrefl _)
theorem ltB_trans {a b c : ByteArray} (h1 : ltB a b = true) (h2 : ltB b c = true) : ltB a c = true :=
 (ltB_iff a c).2 (List.lt_trans ((ltB_iff a b).1 h1) ((ltB_iff b c).1 h2))
theorem ltB_asymm {a b : ByteArray} (h : ltB a b = true) : ltB b a = false := by
 cases e : ltB b a
 ·rfl
 ·exact absurd (ltB_trans h e) (by rw [ltB_irrefl]; decide)
theorem same_iff (a b : ByteArray) : (a.toList == b.toList) = true ↔ a = b := by
 rw [Lib.toList_data, Lib.toList_data, beq_iff_eq]
 exact ⟨fun h => ByteArray.ext (Array.ext' h), fun h => by rw [h]⟩
theorem ltB_total {a b : ByteArray} (h1 : ltB a b = false) (h2 : a ≠ b) : gtB a b = true := by
 have e : (a.toList == b.toList) = false := by
  cases h : (a.toList == b.toList)
  ·rfl
  ·exact absurd ((same_iff a b).1 h) h2
 unfold gtB
 have : Op.bytesLess a.toList b.toList = false := h1
 rw [this, e]; rfl
theorem gtB_lt {a b : ByteArray} (h : ltB a b = true) : gtB a b = false := by
 unfold gtB
 have : Op.bytesLess a.toList b.toList = true := h
 rw [this]; rfl
theorem neB_of {a b : ByteArray} (h : a ≠ b) : neB a b = true := by
 unfold neB
 cases e : (a.toList == b.toList)
 ·rfl
 ·exact absurd ((same_iff a b).1 e) h
theorem gtB_self (a : ByteArray) : gtB a a = false /\ neB a a = false := by
 have : (a.toList == a.toList) = true := (same_iff a a).2 rfl
 unfold gtB neB; rw [this]; simp
theorem lt_ne {a b : ByteArray} (h : ltB a b = true) : a ≠ b := by
 intro e; subst e; rw [ltB_irrefl] at h; cases h
theorem fold_low (s : ByteArray) : ∀ (A : List ByteArray) (q : Bool × List ByteArray), (∀ x ∈ A, ltB x s = true) -> A.foldl (withStep s) q = (q.1, q.2 ++ A) := by
 intro A
 induction A with
 | nil => intro q _; simp
 | cons x A ih =>
  intro q h
  have hx := h x (by simp)
  rw [List.foldl_cons, ih _ (fun y hy => h y (by simp [hy]))]
  unfold withStep
  rw [gtB_lt hx, neB_of (lt_ne hx)]
  simp
theorem fold_high_f (s : ByteArray) : ∀ (C : List ByteArray) (acc : List ByteArray), (∀ x ∈ C, gtB x s = true /\ x ≠ s) -> C.foldl (withStep s) (false, acc) = (false, acc ++ C) := by
 intro C
 induction C with
 | nil => intro acc _; simp
 | cons x C ih =>
  intro acc h
  have hx := h x (by simp)
  rw [List.foldl_cons]
  have e : withStep s (false, acc) x = (false, acc ++ [x]) := by unfold withStep; rw [neB_of hx.2]; simp
  rw [e, ih _ (fun y hy => h y (by simp [hy]))]
  simp
theorem fold_high (s : ByteArray) (C : List ByteArray) (acc : List ByteArray) (b : Bool) (h : ∀ x ∈ C, gtB x s = true /\ x ≠ s) :
  (C.foldl (withStep s) (b, acc)).2 ++ (if (C.foldl (withStep s) (b, acc)).1 then [s] else []) = acc ++ (if b then [s] else []) ++ C := by
 cases b
 ·rw [fold_high_f s C acc h]; simp
 ·cases C with
  | nil => simp
  | cons x C =>
   have hx := h x (by simp)
   rw [List.foldl_cons]
   have e : withStep s (true, acc) x = (false, acc ++ [s] ++ [x]) := by unfold withStep; rw [hx.1, neB_of hx.2]; simp
   rw [e, fold_high_f s C _ (fun y hy => h y (by simp [hy]))]
   simp
theorem place_low {xs : List ByteArray} {t : ByteArray} {i : Nat} (h : Place xs t i) : ∀ x ∈ xs.take i, ltB x t = true := by
 intro x hx
 obtain ⟨k, hk⟩ := List.mem_iff_getElem?.1 hx
 have hki : k < i := by have := (List.getElem?_eq_some_iff.1 hk).1; rw [List.length_take] at this; omega
 rw [List.getElem?_take_of_lt hki] at hk
 exact h.2.1 k x hki hk
theorem sorted_lt {xs : List ByteArray} (hs : Sorted xs) {i j : Nat} {x y : ByteArray} (hij : i < j) (hx : xs[i]? = some x) (hy : xs[j]? = some y) : ltB x y = true := by
 have h1 := List.getElem?_eq_some_iff.1 hx
 have h2 := List.getElem?_eq_some_iff.1 hy
 obtain ⟨a1, a2⟩ := h1
 obtain ⟨b1, b2⟩ := h2
 rw [← a2, ← b2]
 exact List.pairwise_iff_getElem.1 hs i j a1 b1 hij
theorem sorted_mono {xs : List ByteArray} (hs : Sorted xs) (t : ByteArray) : Mono xs t := by
 intro i j x y hij hx hy h
 by_cases e : i = j
 ·subst e; rw [hx] at hy; injection hy with hy; subst hy; exact h
 ·exact ltB_trans (sorted_lt hs (by omega) hx hy) h
theorem place_high {xs : List ByteArray} (hs : Sorted xs) {t : ByteArray} {i : Nat} (h : Place xs t i) :
  (xs[i]? = some t /\ xs = xs.take i ++ t :: xs.drop (i + 1) /\ ∀ x ∈ xs.drop (i + 1), gtB x t = true /\ x ≠ t) \/ (xs[i]? ≠ some t /\ ∀ x ∈ xs.drop i, gtB x t = true /\ x ≠ t) := by
 by_cases e : xs[i]? = some t
 ·left
  obtain ⟨hi, he⟩ := List.getElem?_eq_some_iff.1 e
  refine ⟨e, ?_, ?_⟩
  ·have := (List.take_append_drop i xs).symm
   rw [List.drop_eq_getElem_cons hi, he] at this; exact this
  ·intro x hx
   obtain ⟨k, hk⟩ := List.mem_iff_getElem?.1 hx
   rw [List.getElem?_drop] at hk
   have hlt := sorted_lt hs (by omega) e hk
   have hne : x ≠ t := fun e' => by rw [e'] at hlt; rw [ltB_irrefl] at hlt; cases hlt
   exact ⟨ltB_total (ltB_asymm hlt) hne, hne⟩
 ·right
  refine ⟨e, fun x hx => ?_⟩
  obtain ⟨k, hk⟩ := List.mem_iff_getElem?.1 hx
  rw [List.getElem?_drop] at hk
  have hge := h.2.2 (i + k) x (by omega) hk
  have hne : x ≠ t := by
   intro e'
   subst e'
   cases k with
   | zero => exact e hk
   | succ k =>
    have hil : i < xs.length := by have := (List.getElem?_eq_some_iff.1 hk).1; omega
    obtain ⟨y, hy⟩ : ∃ y, xs[i]? = some y := ⟨_, List.getElem?_eq_getElem hil⟩
    have h1 := sorted_lt hs (by omega) hy hk
    have h2 := h.2.2 i y (Nat.le_refl _) hy
    rw [h1] at h2; cases h2
  exact ⟨ltB_total hge hne, hne⟩
theorem with_place {xs : List ByteArray} (hs : Sorted xs) {t : ByteArray} {i : Nat} (h : Place xs t i) (b : Bool) :
  withL xs t b = if xs[i]? = some t then (if b then xs else delL xs i) else (if b then insL xs i t else xs) := by
 have hlow := place_low h
 rcases place_high hs h with ⟨h1, h2, h3⟩ | ⟨h1, h2⟩
 ·rw [if_pos h1]
  have hw : withL xs t b = xs.take i ++ (if b then [t] else []) ++ xs.drop (i + 1) := by
   conv => lhs; rw [h2]
   unfold withL
   rw [List.foldl_append, fold_low t _ _ hlow, List.foldl_cons]
   have e : withStep t (b, xs.take i) t = (b, xs.take i) := by
    unfold withStep; rw [(gtB_self t).1, (gtB_self t).2]; simp
   dsimp only
   rw [List.nil_append, e]
   exact fold_high t _ _ b h3
  rw [hw]
  cases b
  ·simp [delL]
  ·simp only [if_true]
   rw [List.append_assoc]; exact h2.symm
 ·rw [if_neg h1]
  have hw : withL xs t b = xs.take i ++ (if b then [t] else []) ++ xs.drop i := by
   conv => lhs; rw [← List.take_append_drop i xs]
   unfold withL
   rw [List.foldl_append, fold_low t _ _ hlow]
   have := fold_high t (xs.drop i) (xs.take i) b h2
   simpa using this
  rw [hw]
  cases b
  ·simp
  ·simp [insL]
theorem with_sorted {xs : List ByteArray} (hs : Sorted xs) {t : ByteArray} {i : Nat} (h : Place xs t i) (b : Bool) : Sorted (withL xs t b) := by
 rw [with_place hs h b]
 have hlow := place_low h
 split
 ·cases b
  ·exact hs.sublist (by
    show (delL xs i).Sublist xs
    unfold delL
    conv => rhs; rw [← List.take_append_drop i xs]
    refine List.Sublist.append (List.Sublist.refl _) ?_
    rw [← List.drop_drop]; exact List.drop_sublist _ _)
  ·exact hs
 ·rename_i hne
  cases b
  ·exact hs
  ·rcases place_high hs h with ⟨h1, -, -⟩ | ⟨-, h2⟩
   ·exact absurd h1 hne
   ·show Sorted (insL xs i t)
    unfold insL Sorted
    have hp : (xs.take i ++ xs.drop i).Pairwise fun a b => ltB a b = true := by rw [List.take_append_drop]; exact hs
    rw [List.pairwise_append] at hp
    rw [List.pairwise_append]
    have hgt : ∀ x ∈ xs.drop i, ltB t x = true := by
     intro x hx
     obtain ⟨k, hk⟩ := List.mem_iff_getElem?.1 hx
     have := (h2 x hx)
     have hlt : ¬ x.data.toList < t.data.toList := by
      intro e
      have := (ltB_iff x t).2 e
      have g := gtB_lt this
      rw [(h2 x hx).1] at g; cases g
     rw [ltB_iff]
     rcases List.le_total t.data.toList x.data.toList with hle | hle
     ·rcases Decidable.em (t.data.toList < x.data.toList) with h' | h'
      ·exact h'
      ·exfalso
       apply this.2
       refine ByteArray.ext (Array.ext' ?_)
       exact List.le_antisymm (List.not_lt.1 h') hle
     ·exfalso
      apply this.2
      exact ByteArray.ext (Array.ext' (List.le_antisymm hle (List.not_lt.1 hlt)))
    refine ⟨hp.1, ?_, ?_⟩
    ·rw [List.pairwise_cons]; exact ⟨hgt, hp.2.1⟩
    ·intro a ha b hb
     rcases List.mem_cons.1 hb with rfl | hb
     ·exact hlow a ha
     ·exact hp.2.2 a ha b hb
theorem place_ex {xs : List ByteArray} (hs : Sorted xs) (t : ByteArray) : ∃ i, Place xs t i := by
 refine ⟨(xs.takeWhile fun x => ltB x t).length, ?_, ?_, ?_⟩
 ·exact (List.takeWhile_sublist _).length_le
 ·intro k x hk hx
  have hm : x ∈ xs.takeWhile fun x => ltB x t := by
   have h1 : (xs.takeWhile fun x => ltB x t)[k]? = some x := by
    rw [← hx]
    conv => rhs; rw [← List.takeWhile_append_dropWhile (p := fun x => ltB x t) (l := xs)]
    rw [List.getElem?_append_left hk]
   exact List.mem_of_getElem? h1
  have ha := List.all_takeWhile (p := fun x => ltB x t) (l := xs)
  rw [List.all_eq_true] at ha
  exact ha x hm
 ·intro k x hk hx
  cases h : ltB x t
  ·rfl
  ·exfalso
   have hall : ∀ j y, j <= k -> xs[j]? = some y -> ltB y t = true := fun j y hj hy => sorted_mono hs t j k y x hj hy hx h
   have hkl := (List.getElem?_eq_some_iff.1 hx).1
   have hn : (xs.takeWhile fun x => ltB x t).length < xs.length := by omega
   obtain ⟨y, hy⟩ : ∃ y, xs[(xs.takeWhile fun x => ltB x t).length]? = some y := ⟨_, List.getElem?_eq_getElem hn⟩
   have hyt := hall _ y hk hy
   have hd : (xs.dropWhile fun x => ltB x t).head? = some y := by
    rw [← hy]
    conv => rhs; lhs; rw [← List.takeWhile_append_dropWhile (p := fun x => ltB x t) (l := xs)]
    rw [List.getElem?_append_right (Nat.le_refl _), Nat.sub_self, List.head?_eq_getElem?]
   have := List.head?_dropWhile_not (fun x => ltB x t) xs
   rw [hd] at this
   simp [hyt] at this
end Go.Proofs.YtalmoiogbdahcaaGreat
