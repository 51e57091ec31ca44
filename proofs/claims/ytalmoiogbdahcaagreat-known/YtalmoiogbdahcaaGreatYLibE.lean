import Derived.Test.YtalmoiogbdahcaaGreatYRefE
import Derived.Test.YtalmoiogbdahcaaGreatYWrdJ
import Derived.Test.YtalmoiogbdahcaaGreatYLibD
namespace Go.Proofs.YtalmoiogbdahcaaGreat
set_option maxRecDepth 100000
set_option maxHeartbeats 8000000
open Go.RowKit Go.Shelf
def setL (cs : List Value) : Nat -> List Value -> List Value
 | _, [] => cs
 | o, v :: r => setL (cs.set o v) (o + 1) r
theorem setL_eq : ∀ (vs cs : List Value) (o : Nat), o + vs.length <= cs.length -> setL cs o vs = cs.take o ++ vs ++ cs.drop (o + vs.length) := by
 intro vs
 induction vs with
 | nil => intro cs o _; simp [setL]
 | cons v r ih =>
  intro cs o h
  simp only [List.length_cons] at h
  rw [setL, ih _ _ (by rw [List.length_set]; omega)]
  have h1 : (cs.set o v).take (o + 1) = cs.take o ++ [v] := by
   rw [List.take_succ_eq_append_getElem (by rw [List.length_set]; omega), List.getElem_set_self, List.take_set, List.set_eq_of_length_le (by rw [List.length_take]; omega)]
  have h2 : (cs.set o v).drop (o + 1 + r.length) = cs.drop (o + 1 + r.length) := by
   rw [List.drop_set]; split
   ·rfl
   ·omega
  rw [h1, h2]
  simp [List.length_cons, Nat.add_assoc, Nat.add_comm 1]
theorem setL_length : ∀ (vs cs : List Value) (o : Nat), (setL cs o vs).length = cs.length := by
 intro vs
 induction vs with
 | nil => intro cs o; rfl
 | cons v r ih => intro cs o; rw [setL, ih, List.length_set]
theorem shift_list (cur ys : List Value) (n cap i : Nat) (x : Value) (hcl : cur.length = cap) (hn : n + 1 <= cap) (hi : i <= n) (hyl : ys.length = n) (htake : cur.take n = ys) :
  (setL (setL cur (i + 1) (ys.drop i)) i [x]).take (n + 1) = ys.take i ++ [x] ++ ys.drop i := by
 have hd : (ys.drop i).length = n - i := by rw [List.length_drop, hyl]
 have h1 : setL cur (i + 1) (ys.drop i) = cur.take (i + 1) ++ (ys.drop i ++ cur.drop (n + 1)) := by
  rw [setL_eq _ _ _ (by rw [hd]; omega), hd, show i + 1 + (n - i) = n + 1 by omega, List.append_assoc]
 have hl1 : (cur.take (i + 1)).length = i + 1 := by rw [List.length_take]; omega
 have h2 : (cur.take (i + 1) ++ (ys.drop i ++ cur.drop (n + 1))).take i = ys.take i := by
  rw [List.take_append_of_le_length (by rw [hl1]; omega), List.take_take, Nat.min_eq_left (by omega), ← htake, List.take_take, Nat.min_eq_left hi]
 have h3 : (cur.take (i + 1) ++ (ys.drop i ++ cur.drop (n + 1))).drop (i + 1) = ys.drop i ++ cur.drop (n + 1) := by
  exact List.drop_left' hl1
 rw [h1, setL_eq _ _ _ (by simp [hd]; omega), h2]
 show (ys.take i ++ [x] ++ (cur.take (i + 1) ++ (ys.drop i ++ cur.drop (n + 1))).drop (i + 1)).take (n + 1) = _
 rw [h3, ← List.append_assoc]
 have hl : (ys.take i ++ [x] ++ ys.drop i).length = n + 1 := by
  rw [List.length_append, List.length_append, List.length_take, hd]; simp; omega
 rw [← hl, List.take_left]
theorem grow_list (a z1 z2 d : List Value) (x : Value) (i n : Nat) (hi : i <= n) (ha : a.length = i) (hz : z1.length = n + 1 - i) (hd : d.length = n - i) : setL (setL (a ++ z1 ++ z2) i [x]) (i + 1) d = a ++ [x] ++ d ++ z2 := by
 have h1 : (a ++ z1 ++ z2).take i = a := by rw [List.append_assoc]; exact List.take_left' ha
 have h2 : (a ++ z1 ++ z2).drop (i + 1) = z1.drop 1 ++ z2 := by
  rw [List.append_assoc, ← List.drop_drop, List.drop_left' ha, List.drop_append_of_le_length (by omega)]
 have e1 : setL (a ++ z1 ++ z2) i [x] = (a ++ [x]) ++ (z1.drop 1 ++ z2) := by
  rw [setL_eq _ _ _ (by simp; omega), h1]
  show a ++ [x] ++ (a ++ z1 ++ z2).drop (i + 1) = _
  rw [h2]
 have hl : (a ++ [x]).length = i + 1 := by rw [List.length_append, ha]; rfl
 have hl2 : ((a ++ [x]) ++ z1.drop 1).length = n + 1 := by rw [List.length_append, hl, List.length_drop, hz]; omega
 rw [e1, setL_eq _ _ _ (by simp; omega), List.take_left' hl, hd, show i + 1 + (n - i) = n + 1 by omega, ← List.append_assoc (a ++ [x]), List.drop_left' hl2]
theorem row_setCells {b : Nat} {t : TypeId} {fz : Nat × Nat} : ∀ (vs cs : List Value) (o : Nat) (w : World), w.heap[b]? = some (.cells cs.toArray t fz) -> (w.setCells b o vs).heap[b]? = some (.cells (setL cs o vs).toArray t fz) := by
 intro vs
 induction vs with
 | nil => intro cs o w h; exact h
 | cons v r ih => intro cs o w h; exact ih _ _ _ (row_set h o v)
theorem kept_setCells {b : Nat} : ∀ (vs : List Value) (o : Nat) {w wr : World}, w.grownBy wr (some b) -> w.grownBy (wr.setCells b o vs) (some b) := by
 intro vs
 induction vs with
 | nil => intro o w wr h; exact h
 | cons v r ih => intro o w wr h; exact ih _ (kept_set h o v)
theorem row_drew {w : World} {b : Nat} {o : Option Obj} (h : w.heap[b]? = o) : w.drew.heap[b]? = o := h
theorem kept_drew {w wr : World} {row : Option Nat} (h : w.grownBy wr row) : w.grownBy wr.drew row := ⟨h.os, h.tape, h.output, h.size, h.block⟩
theorem kept_none {w wr : World} {row : Option Nat} (h : Below w.heap.size w wr) : w.grownBy wr row := ⟨h.os, h.tape, h.output, h.size, fun k hk _ => h.block k hk⟩
theorem new_setCells {w : World} {row : Option Nat} {b : Nat} (hb : w.heap.size <= b) : ∀ (vs : List Value) (o : Nat) {wr : World}, w.grownBy wr row -> w.grownBy (wr.setCells b o vs) row := by
 intro vs
 induction vs with
 | nil => intro o wr h; exact h
 | cons v r ih => intro o wr h; exact ih _ (kept_new h hb o v)
def insL (xs : List ByteArray) (i : Nat) (x : ByteArray) : List ByteArray := xs.take i ++ x :: xs.drop i
theorem insL_len (xs : List ByteArray) (i : Nat) (x : ByteArray) : (insL xs i x).length = xs.length + 1 := by
 unfold insL; rw [List.length_append, List.length_cons, List.length_take, List.length_drop]; omega
theorem strV_take (xs : List ByteArray) (n : Nat) : (strV xs).take n = strV (xs.take n) := by unfold strV; rw [List.map_take]
theorem strV_drop (xs : List ByteArray) (n : Nat) : (strV xs).drop n = strV (xs.drop n) := by unfold strV; rw [List.map_drop]
theorem strV_insL (xs : List ByteArray) (i : Nat) (x : ByteArray) : strV (insL xs i x) = strV (xs.take i) ++ [.string x] ++ strV (xs.drop i) := by unfold insL strV; simp
def IPost (base : Nat) (v : Value) (xs : List ByteArray) (i : Nat) (x : ByteArray) (w : World) (e : Ending) (w' : World) : Prop :=
 ∃ g c, e = .returned (.slice (some ⟨g, 0, none⟩) (xs.length + 1) c) /\ w'.ownsRow base 9 1 (.slice (some ⟨g, 0, none⟩) (xs.length + 1) c) (xs.length + 1) (strV (insL xs i x)) /\ w.grownBy w' v.ownBlock
theorem insert_any (w : World) (base : Nat) (v : Value) (xs : List ByteArray) (i : Nat) (hi : i <= xs.length) (x : ByteArray) (vb : Nat) (hown : w.ownsRow base 9 1 v xs.length (strV xs)) (hl : xs.length <= 1000) (hb : base <= w.heap.size)
  (hvb : w.heap[vb]? = some (.cells [Value.string x].toArray 9 (0, 0))) (hne : v.ownBlock ≠ some vb) :
  Calls Tryz.prog 101 #[v, .int .i64 i, .slice (some ⟨vb, 0, none⟩) 1 1] w (IPost base v xs i x w) := by
 have hvs : ∀ (j : Nat) (u : Value), [Value.string x][j]? = some u -> w.cell? ⟨vb, 0 + j, none⟩ = some u := fun j u hj => by rw [Nat.zero_add]; exact row_cell hvb hj
 have h1v : ∀ u ∈ [Value.string x], u.oneCell' = true := fun u hu => by simp at hu; subst hu; rfl
 have et : Tryz.lays22_ren.t 9 = 9 := rfl
 have hzc : (Value.string (⟨#[]⟩ : ByteArray)).cells.size = 1 := rfl
 have hnew : ∀ (c : Nat) (cs : List Value), c < xs.length + 1 -> cs = strV (insL xs i x) -> xs.length + 1 <= grownCap w (xs.length + 1) c 9 -> ∀ w' : World,
   w'.heap[w.heap.size]? = some (.cells (cs ++ (Builtin.zeroCells (Value.string ⟨#[]⟩).cells (grownCap w (xs.length + 1) c 9 - (xs.length + 1))).toList).toArray 9 (0, 0)) ->
   w'.ownsRow base 9 1 (.slice (some ⟨w.heap.size, 0, none⟩) (xs.length + 1) (grownCap w (xs.length + 1) c 9)) (xs.length + 1) (strV (insL xs i x)) := by
  intro c cs _ hcs hge w' hh
  have hcl : cs.length = xs.length + 1 := by rw [hcs, strV_length, insL_len]
  refine ⟨by rw [strV_length, insL_len, Nat.mul_one], Or.inr ⟨w.heap.size, _, _, rfl, hb, hh, hge, grownCap_le_maxLen w _ _ _ (by unfold maxLen; omega), ?_, ?_⟩⟩
  ·simp [hcl, size_zeroCells, hzc]; omega
  ·rw [hcs, Nat.mul_one]
   have : (strV (insL xs i x)).length = xs.length + 1 := by rw [strV_length, insL_len]
   simp [← this]
 rcases hown.2 with ⟨rfl, h0⟩ | ⟨g, cap, cur, rfl, hbg, hg, hnc, hcm, hcs, htake⟩
 ·have hx : xs = [] := List.eq_nil_of_length_eq_zero h0
  subst hx
  have hi0 : i = 0 := by simpa using hi
  subst hi0
  refine (Any2.slices_Insert_string_end_grow Tryz.lays22 none 0 0 vb 0 1 1 [] [.string x] w (by omega) (Nat.le_refl _) (by omega) (by omega) rfl rfl (fun _ => rfl) (fun a h => by cases h) hvs h1v).mono ?_
  rintro e w' ⟨rfl, rfl⟩
  rw [et]
  refine ⟨_, _, rfl, hnew 0 [.string x] (by decide) rfl (grownCap_ge w _ _ _) _ ?_, kept_none ((Below.refl _ w).drew.alloc (Nat.le_refl _) _)⟩
  show (w.heap.push _)[w.heap.size]? = _
  rw [Array.getElem?_push_size]
  simp
 ·have hcurl : cur.toList.length = cap := by rw [Array.length_toList, hcs, Nat.mul_one]
  have hg' : w.heap[g]? = some (.cells cur.toList.toArray 9 (0, 0)) := by rw [Array.toArray_toList]; exact hg
  have hgv : vb ≠ g := fun e => hne (by simp [Value.ownBlock, e])
  rw [Nat.mul_one] at htake
  have hcells : ∀ (j : Nat) (u : Value), (strV xs)[j]? = some u -> w.cell? ⟨g, 0 + j, none⟩ = some u := fun j u hj => by
   rw [Nat.zero_add]
   have hj' : j < xs.length := by have := (List.getElem?_eq_some_iff.1 hj).1; rwa [strV_length] at this
   rw [← htake, List.getElem?_take_of_lt hj'] at hj
   exact row_cell hg' hj
  have h1c : ∀ u ∈ strV xs, u.oneCell' = true := strV_one xs
  have hsome : ∀ j, j < cap -> (w.cell? ⟨g, 0 + j, none⟩).isSome = true := fun j hj => by
   rw [Nat.zero_add, row_cell hg' (List.getElem?_eq_getElem (by omega))]; rfl
  have hfz : ∀ j, w.frozen? ⟨g, 0 + j, none⟩ = false := fun j => row_frozen hg' _
  have hcm' : cap <= 9223372036854775807 := by unfold maxLen at hcm; omega
  by_cases hroom : xs.length + 1 <= cap
  ·by_cases hin : i < xs.length
   ·refine (Any2.slices_Insert_string_shift Tryz.lays22 g 0 xs.length cap i vb 0 1 1 (strV xs) [.string x] w hin (by omega) hroom hcm' hgv (strV_length _) rfl hcells (fun j hj => hsome j (by omega)) (fun j _ => hfz j) hvs h1c h1v 9 9 1 cap (by simp [World.shape?, hvb]) (by simp [World.shape?, hg, hcs]) (by omega) (row_frozen hvb _) (row_frozen hvb _)).mono ?_
    rintro e w' ⟨rfl, rfl⟩
    simp only [Nat.zero_add]
    have hA := row_setCells ((strV xs).drop i) cur.toList (i + 1) w.drew hg'
    have hB := row_setCells [Value.string x] _ i _ hA
    refine ⟨g, cap, rfl, ⟨by rw [strV_length, insL_len, Nat.mul_one], Or.inr ⟨g, cap, _, rfl, hbg, hB, hroom, hcm, ?_, ?_⟩⟩, kept_setCells _ _ (kept_setCells _ _ (kept_drew (kept_refl _ _)))⟩
    ·rw [List.size_toArray, setL_length, setL_length, hcurl, Nat.mul_one]
    ·rw [Nat.mul_one, strV_insL, ← strV_take, ← strV_drop]
     exact shift_list cur.toList (strV xs) xs.length cap i (.string x) hcurl hroom hi (strV_length _) htake
   ·obtain rfl : i = xs.length := by omega
    refine (Any2.slices_Insert_string_end_room Tryz.lays22 g 0 xs.length cap vb 0 1 1 [.string x] w (by omega) hroom hcm' rfl (fun j hj => by have := hsome (xs.length + j) (by omega); rwa [← Nat.add_assoc] at this) (fun j _ => by have := hfz (xs.length + j); rwa [← Nat.add_assoc] at this) hvs h1v).mono ?_
    rintro e w' ⟨rfl, rfl⟩
    simp only [Nat.zero_add]
    have hB := row_setCells [Value.string x] _ xs.length _ hg'
    refine ⟨g, cap, rfl, ⟨by rw [strV_length, insL_len, Nat.mul_one], Or.inr ⟨g, cap, _, rfl, hbg, hB, hroom, hcm, ?_, ?_⟩⟩, kept_setCells _ _ (kept_refl _ _)⟩
    ·rw [List.size_toArray, setL_length, hcurl, Nat.mul_one]
    ·rw [Nat.mul_one, strV_insL, setL_eq _ _ _ (by simp; omega), htake, List.take_of_length_le (Nat.le_refl _), List.drop_of_length_le (Nat.le_refl _)]
     have hl : (strV xs ++ [Value.string x]).length = xs.length + 1 := by rw [List.length_append, strV_length]; rfl
     rw [← hl, List.take_left]; simp [strV]
  ·by_cases hin : i < xs.length
   ·refine (Any2.slices_Insert_string_grow Tryz.lays22 g 0 xs.length cap i vb 0 1 1 (strV xs) [.string x] w hin (by omega) hnc (by omega) (by omega) (strV_length _) rfl hcells hvs h1c h1v).mono ?_
    rintro e w' ⟨rfl, rfl⟩
    rw [et]
    have hge := grownCap_ge w (xs.length + 1) cap 9
    refine ⟨_, _, rfl, hnew cap _ (by omega) rfl hge _ ?_, new_setCells (Nat.le_refl _) _ _ (kept_drew (new_setCells (Nat.le_refl _) _ _ (kept_drew (kept_none ((Below.refl _ w).alloc (Nat.le_refl _) _)))))⟩
    have hA : (w.alloc (.cells (((strV xs).take i ++ (Builtin.zeroCells (Value.string ⟨#[]⟩).cells (xs.length + 1 - i)).toList ++ (Builtin.zeroCells (Value.string ⟨#[]⟩).cells (grownCap w (xs.length + 1) cap 9 - (xs.length + 1))).toList)).toArray 9)).drew.heap[w.heap.size]? = _ := alloc_new w _ _
    have hB := row_setCells [Value.string x] _ i _ hA
    have hC := row_setCells ((strV xs).drop i) _ (i + 1) _ (row_drew hB)
    rw [grow_list _ _ _ _ _ i xs.length hi (by rw [List.length_take, strV_length]; omega) (by rw [Array.length_toList, size_zeroCells, hzc, Nat.mul_one]) (by rw [List.length_drop, strV_length])] at hC
    rw [strV_insL, ← strV_take, ← strV_drop]
    have e : ((strV xs).take i ++ (Builtin.zeroCells (Value.string ⟨#[]⟩).cells (xs.length + 1 - i)).toList ++ (Builtin.zeroCells (Value.string ⟨#[]⟩).cells (grownCap w (xs.length + 1) cap 9 - (xs.length + 1))).toList).toArray = ((strV xs).take i).toArray ++ Builtin.zeroCells (Value.string ⟨#[]⟩).cells (xs.length + 1 - i) ++ Builtin.zeroCells (Value.string ⟨#[]⟩).cells (grownCap w (xs.length + 1) cap 9 - (xs.length + 1)) := by simp
    rw [e] at hC
    exact hC
   ·obtain rfl : i = xs.length := by omega
    refine (Any2.slices_Insert_string_end_grow Tryz.lays22 (some ⟨g, 0, none⟩) xs.length cap vb 0 1 1 (strV xs) [.string x] w (by omega) hnc (by omega) (by omega) (strV_length _) rfl (fun h => by cases h) (fun a ha j u hj => by injection ha with ha; subst ha; rw [addr_at]; have := hcells j u hj; rwa [Nat.zero_add] at this) hvs h1v).mono ?_
    rintro e w' ⟨rfl, rfl⟩
    rw [et]
    refine ⟨_, _, rfl, hnew cap (strV xs ++ [.string x]) (by omega) ?_ (grownCap_ge w _ _ _) _ ?_, kept_none ((Below.refl _ w).drew.alloc (Nat.le_refl _) _)⟩
    ·rw [strV_insL, List.take_of_length_le (Nat.le_refl _), List.drop_of_length_le (Nat.le_refl _)]; simp [strV]
    ·show (w.heap.push _)[w.heap.size]? = _
     rw [Array.getElem?_push_size]
     simp
def delL (xs : List ByteArray) (i : Nat) : List ByteArray := xs.take i ++ xs.drop (i + 1)
theorem putRow_row {w : World} {g q : Nat} {cur : List Value} {t : TypeId} {fz : Nat × Nat} (hg : w.heap[g]? = some (.cells cur.toArray t fz)) (d : List (List UInt8)) (hd : d.length <= cur.length) :
  (Sort.putRow encStr (Sort.ahead w q) g 0 d.toArray).heap[g]? = some (.cells (d.map encStr ++ cur.drop d.length).toArray t fz) := by
 unfold Sort.putRow Sort.mapBlock
 show (w.heap.modify g _)[g]? = _
 rw [Array.getElem?_modify, if_pos rfl, hg]
 simp only [Option.map_some, Sort.onCells]
 congr 2
 apply Array.ext'
 apply List.ext_getElem?
 intro k
 unfold Sort.putCells
 simp only [Array.getElem?_toList, Array.getElem?_mapIdx]
 by_cases hk : k < d.length
 ·rw [List.getElem?_append_left (by simpa using hk)]
  have hk2 : k < cur.length := by omega
  simp [hk, hk2]
 ·rw [List.getElem?_append_right (by simpa using hk)]
  by_cases hk2 : k < cur.length
  ·simp [hk, hk2]
   rw [show d.length + (k - d.length) = k by omega, List.getElem?_eq_getElem hk2]
  ·simp [hk2]
   omega
theorem putRow_other {w : World} {g q : Nat} (d : List (List UInt8)) {k : Nat} (h : k ≠ g) : (Sort.putRow encStr (Sort.ahead w q) g 0 d.toArray).heap[k]? = w.heap[k]? := by
 unfold Sort.putRow Sort.mapBlock
 show (w.heap.modify g _)[k]? = _
 rw [Array.getElem?_modify, if_neg (fun e => h e.symm)]
theorem delete_any (w : World) (base g cap : Nat) (xs : List ByteArray) (i : Nat) (hi : i < xs.length) (hown : w.ownsRow base 9 1 (.slice (some ⟨g, 0, none⟩) xs.length cap) xs.length (strV xs)) :
  Calls Tryz.prog 103 #[.slice (some ⟨g, 0, none⟩) xs.length cap, .int .i64 i, .int .i64 ((i + 1 : Nat) : Int)] w fun e w' => e = .returned (.slice (some ⟨g, 0, none⟩) (xs.length - 1) cap) /\
   w'.ownsRow base 9 1 (.slice (some ⟨g, 0, none⟩) (xs.length - 1) cap) (xs.length - 1) (strV (delL xs i)) /\ w.grownBy w' (some g) := by
 rcases hown.2 with ⟨hv, -⟩ | ⟨g', cap', cur, hv, hbg, hg, hnc, hcm, hcs, htake⟩
 ·cases hv
 ·simp only [Value.slice.injEq, Option.some.injEq, Addr.mk.injEq] at hv
  obtain ⟨⟨rfl, -, -⟩, -, rfl⟩ := hv
  have hg' : w.heap[g]? = some (.cells cur.toList.toArray 9 (0, 0)) := by rw [Array.toArray_toList]; exact hg
  have hcurl : cur.toList.length = cap := by rw [Array.length_toList, hcs, Nat.mul_one]
  rw [Nat.mul_one] at htake
  have hzl : (xs.map fun x : ByteArray => x.data.toList).length = xs.length := List.length_map _
  have hH : Sort.Holds encStr w g 0 (xs.map fun x : ByteArray => x.data.toList).toArray := by
   intro j hj
   simp at hj
   refine ⟨?_, row_frozen hg' _⟩
   rw [Nat.zero_add]
   refine row_cell hg' ?_
   have h1 : (strV xs)[j]? = some (.string xs[j]) := by simp [strV, hj]
   rw [← htake, List.getElem?_take_of_lt hj] at h1
   rw [h1]
   simp [hj, encStr]
  have hc := Any.slices_Delete_string Tryz.lays24 g 0 cap i (i + 1) (xs.map fun x : ByteArray => x.data.toList) w hH (by rw [hzl]; exact hnc) (by unfold maxLen at hcm; omega) (Nat.le_succ i) (by rw [hzl]; omega)
  rw [hzl] at hc
  refine hc.mono ?_
  rintro e w' ⟨rfl, q, rfl⟩
  have e1 : i + 1 - i = 1 := by omega
  rw [e1]
  have hdl : ((xs.map fun x : ByteArray => x.data.toList).take i ++ (xs.map fun x : ByteArray => x.data.toList).drop (i + 1) ++ List.replicate 1 []).length = xs.length := by
   simp; omega
  have hrow := putRow_row (q := q) hg' ((xs.map fun x : ByteArray => x.data.toList).take i ++ (xs.map fun x : ByteArray => x.data.toList).drop (i + 1) ++ List.replicate 1 []) (by rw [hdl, hcurl]; exact hnc)
  have hdel : (delL xs i).length = xs.length - 1 := by unfold delL; simp; omega
  have hmap : ((xs.map fun x : ByteArray => x.data.toList).take i ++ (xs.map fun x : ByteArray => x.data.toList).drop (i + 1)).map encStr = strV (delL xs i) := by
   unfold delL strV
   rw [← List.map_take, ← List.map_drop, ← List.map_append, List.map_map]
   rfl
  refine ⟨rfl, ⟨by rw [strV_length, hdel, Nat.mul_one], Or.inr ⟨g, cap, _, rfl, hbg, hrow, by omega, hcm, ?_, ?_⟩⟩, ⟨rfl, rfl, rfl, by simp, fun k _ hne => putRow_other _ (fun e => hne (by rw [e]))⟩⟩
  ·rw [List.size_toArray, List.length_append, List.length_map, List.length_drop, hdl, hcurl]; omega
  ·rw [Nat.mul_one, List.map_append, hmap, List.append_assoc]
   have hl : (strV (delL xs i)).length = xs.length - 1 := by rw [strV_length, hdel]
   rw [← hl, List.take_left]
end Go.Proofs.YtalmoiogbdahcaaGreat
