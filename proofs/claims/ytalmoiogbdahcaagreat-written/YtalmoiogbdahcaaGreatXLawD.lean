import Derived.Test.YtalmoiogbdahcaaGreatXLawB
import Derived.Test.YtalmoiogbdahcaaGreatXRefE

/- Lists that their owner writes full, and grows, with one mark. -/
namespace Go.Proofs.YtalmoiogbdahcaaGreat
open Go.RowKit

def StrRow (w : World) (g : Nat) (cur : List Value) : Prop := w.heap[g]? = some (.cells cur.toArray 9 (0, 0))
/-- a list that holds nothing but the mark, in a row of texts. -/
def FullB (w : World) (v : Value) (m : ByteArray) : Prop :=
  v = .slice none 0 0 ∨ ∃ g n cap cur, v = .slice (some ⟨g, 0, none⟩) n cap ∧ StrRow w g cur ∧ n ≤ cur.length ∧ n ≤ maxLen ∧ ∀ i, i < n → cur[i]? = some (.string m)
/-- what was the mark is the mark still. -/
def MPB (m : ByteArray) (w w' : World) : Prop :=
  ∀ g cur, StrRow w g cur → ∃ cur', StrRow w' g cur' ∧ cur'.length = cur.length ∧ ∀ i : Nat, cur[i]? = some (.string m) → cur'[i]? = some (.string m)
theorem MPB.refl (m : ByteArray) (w : World) : MPB m w w := fun _ cur h => ⟨cur, h, rfl, fun _ h => h⟩
theorem MPB.trans {m : ByteArray} {a b c : World} (h : MPB m a b) (k : MPB m b c) : MPB m a c := by
  intro g cur hg
  obtain ⟨c1, h1, l1, p1⟩ := h g cur hg
  obtain ⟨c2, h2, l2, p2⟩ := k g c1 h1
  exact ⟨c2, h2, l2.trans l1, fun i hi => p2 i (p1 i hi)⟩
theorem MPB.of_same {m : ByteArray} {w w' : World} (h : ∀ g cur, StrRow w g cur → w'.heap[g]? = w.heap[g]?) : MPB m w w' :=
  fun g cur hg => ⟨cur, by unfold StrRow; rw [h g cur hg]; exact hg, rfl, fun _ h => h⟩
theorem MPB.below {m : ByteArray} {w w' : World} (h : Below w.heap.size w w') : MPB m w w' := MPB.of_same fun g _ hg => h.block g (row_lt hg)
theorem FullB.step {m : ByteArray} {w w' : World} {v : Value} (h : FullB w v m) (k : MPB m w w') : FullB w' v m := by
  rcases h with h | ⟨g, n, cap, cur, hv, hg, hn, hm, hi⟩
  · exact Or.inl h
  · obtain ⟨c1, h1, l1, p1⟩ := k g cur hg
    exact Or.inr ⟨g, n, cap, c1, hv, h1, by omega, hm, fun i hl => p1 i (hi i hl)⟩
theorem FullB.at {m : ByteArray} {w : World} {v : Value} (h : FullB w v m) : FullAt w v m := by
  rcases h with h | ⟨g, n, cap, cur, hv, hg, hn, hm, hi⟩
  · exact ⟨[], Or.inl ⟨h, rfl⟩, Nat.zero_le _, rfl⟩
  · refine ⟨List.replicate n m, Or.inr ⟨g, 0, cap, by rw [List.length_replicate]; exact hv, ?_⟩, by rw [List.length_replicate]; exact hm, ?_⟩
    · intro i x hx
      rw [List.getElem?_replicate] at hx
      split at hx
      · rename_i hl
        injection hx with hx
        subst hx
        rw [Nat.zero_add]
        exact row_cell hg (hi i hl)
      · cases hx
    · simp [allAre]

/-- a cell of a row of texts, written with the mark. -/
theorem mpb_set {m : ByteArray} {w : World} {g : Nat} {cur : List Value} (hg : StrRow w g cur) (j : Nat) (hj : j < cur.length) : MPB m w (w.setCell ⟨g, j, none⟩ (.string m)) := by
  intro g' cur' hg'
  by_cases e : g' = g
  · subst e
    have : cur' = cur := by
      have h1 : some (Obj.cells cur'.toArray 9 (0, 0)) = some (Obj.cells cur.toArray 9 (0, 0)) := hg'.symm.trans hg
      simpa using h1
    subst this
    refine ⟨cur'.set j (.string m), row_set hg' j _, by simp, fun i hi => ?_⟩
    by_cases e : j = i
    · subst e; rw [List.getElem?_set_self hj]
    · rw [List.getElem?_set_ne e]; exact hi
  · exact ⟨cur', by unfold StrRow; rw [Below.heap_setCell _ _ _ _ e]; exact hg', rfl, fun _ h => h⟩

theorem add_at (b k : Nat) : (⟨b, 0, none⟩ : Addr).add k = ⟨b, k, none⟩ := by
  unfold Addr.add
  split
  · rename_i h; rw [h]
  · simp
/-- the list grown by some marks: in its spare room, or in a row of its own. -/
theorem app_full (w : World) (g n cap : Nat) (cur : List Value) (m : ByteArray) (j : Nat) (hj : 1 ≤ j) (hg : StrRow w g cur) (hc : cur.length = cap) (hn : n ≤ cap) (hcap : n + j ≤ 1099511627776) (hf : ∀ i, i < n → cur[i]? = some (.string m)) :
    ∃ gx nx cx w', (Builtin.append_ #[28, 28] 28 #[.slice (some ⟨g, 0, none⟩) n cap, .slice (some ⟨w.heap.size, 0, none⟩) j j]).run Tryz.prog (w.alloc (.cells (strV (List.replicate j m)).toArray 9)) = .ok (.slice (some ⟨gx, 0, none⟩) nx cx) w' ∧
      FullB w' (.slice (some ⟨gx, 0, none⟩) nx cx) m ∧ MPB m w w' ∧ w.grownBy w' (some g) := by
  obtain ⟨i, hi, hz, hs, hby⟩ := info_str
  have hlt : g < w.heap.size := row_lt hg
  have hga : StrRow (w.alloc (.cells (strV (List.replicate j m)).toArray 9)) g cur := by
    unfold StrRow; rw [Below.heap_alloc _ _ _ hlt]; exact hg
  have hnews : ∀ k u, (strV (List.replicate j m))[k]? = some u → (w.alloc (.cells (strV (List.replicate j m)).toArray 9)).cell? ((⟨w.heap.size, 0, none⟩ : Addr).add k) = some u := by
    intro k u hu
    rw [add_at]
    refine row_cell (cs := strV (List.replicate j m)) (t := 9) (fz := (0, 0)) ?_ hu
    show (w.heap.push _)[w.heap.size]? = _
    simp
  by_cases hroom : n + j ≤ cap
  · have hr := run_append_room (P := Tryz.prog) (w.alloc (.cells (strV (List.replicate j m)).toArray 9)) 28 28 9 i Tryz.underlying28 hi g n cap cur.toArray hga ⟨w.heap.size, 0, none⟩ j j (strV (List.replicate j m)) (by rw [hs, strV_length, List.length_replicate, Nat.mul_one]) hnews (strV_one _) hroom (by rw [hs, strV_length, List.length_replicate]; simp; omega)
    have hrow := setRow_heap _ g cur.toArray ((cur.take n ++ strV (List.replicate j m) ++ cur.drop (n + j))).toArray 9 (0, 0) hga
    have hcells : ∀ k, k < n + j → (cur.take n ++ strV (List.replicate j m) ++ cur.drop (n + j))[k]? = some (.string m) := by
      intro k hk
      rw [List.append_assoc]
      by_cases h1 : k < n
      · rw [List.getElem?_append_left (by rw [List.length_take]; omega), List.getElem?_take_of_lt h1]
        exact hf k h1
      · rw [List.getElem?_append_right (by rw [List.length_take]; omega), List.length_take, Nat.min_eq_left (by omega), List.getElem?_append_left (by rw [strV_length, List.length_replicate]; omega)]
        simp only [strV, List.map_replicate, List.getElem?_replicate]
        rw [if_pos (by omega)]
    have hlen : (cur.take n ++ strV (List.replicate j m) ++ cur.drop (n + j)).length = cap := by
      rw [List.length_append, List.length_append, List.length_take, List.length_drop, strV_length, List.length_replicate]; omega
    rw [hs, Nat.mul_one, strV_length, List.length_replicate] at hr
    refine ⟨_, _, _, _, hr, ?_, ?_, ?_⟩
    · exact Or.inr ⟨g, n + j, cap, _, rfl, hrow, by rw [hlen]; exact hroom, by unfold maxLen; omega, hcells⟩
    · intro g' cur' hg'
      by_cases e : g' = g
      · subst e
        have : cur' = cur := by
          have h1 : some (Obj.cells cur'.toArray 9 (0, 0)) = some (Obj.cells cur.toArray 9 (0, 0)) := hg'.symm.trans hg
          simpa using h1
        subst this
        refine ⟨_, hrow, by rw [hlen, hc], fun k hk => ?_⟩
        by_cases h1 : k < n + j
        · exact hcells k h1
        · rw [List.append_assoc, List.getElem?_append_right (by rw [List.length_take]; omega), List.length_take, Nat.min_eq_left (by omega), List.getElem?_append_right (by rw [strV_length, List.length_replicate]; omega), strV_length, List.length_replicate, List.getElem?_drop]
          rw [show n + j + (k - n - j) = k by omega]; exact hk
      · exact ⟨cur', by unfold StrRow; rw [setRow_other _ _ _ _ e, Below.heap_alloc _ _ _ (row_lt hg')]; exact hg', rfl, fun _ h => h⟩
    · refine ⟨rfl, rfl, rfl, ?_, fun k hk hne => ?_⟩
      · show w.heap.size ≤ ((w.alloc _).setRow g _).heap.size
        simp [World.setRow]
      · show ((w.alloc _).setRow g _).heap[k]? = _
        rw [setRow_other _ _ _ _ (fun e => hne (by rw [e])), Below.heap_alloc _ _ _ hk]
  · have holds : ∀ k u, (cur.take n)[k]? = some u → (w.alloc (.cells (strV (List.replicate j m)).toArray 9)).cell? ((⟨g, 0, none⟩ : Addr).add k) = some u := by
      intro k u hu
      rw [add_at]
      have hk : k < n := by
        rcases Nat.lt_or_ge k n with h | h
        · exact h
        · rw [List.getElem?_eq_none (by rw [List.length_take]; omega)] at hu; cases hu
      rw [List.getElem?_take_of_lt hk] at hu
      exact row_cell hga hu
    have hr := run_append_grow (P := Tryz.prog) (w.alloc (.cells (strV (List.replicate j m)).toArray 9)) 28 28 9 i (.string { data := #[] }) Tryz.underlying28 hi hz ⟨g, 0, none⟩ n cap (cur.take n) (by rw [hs, List.length_take]; omega) holds ⟨w.heap.size, 0, none⟩ j j (strV (List.replicate j m)) (by rw [hs, strV_length, List.length_replicate, Nat.mul_one]) hnews (by omega) (by omega) (growslice_fits (by omega) (by rw [hby]; omega))
    refine ⟨_, _, _, _, hr, ?_, ?_, ?_⟩
    · refine Or.inr ⟨w.heap.size + 1, n + j, grownCap (w.alloc (.cells (strV (List.replicate j m)).toArray 9)) (n + j) cap 9, cur.take n ++ strV (List.replicate j m) ++ (Builtin.zeroCells (Value.string { data := #[] }).cells (grownCap (w.alloc (.cells (strV (List.replicate j m)).toArray 9)) (n + j) cap 9 - (n + j))).toList, by simp, ?_, ?_, by unfold maxLen; omega, ?_⟩
      · unfold StrRow
        show ((w.heap.push _).push _)[w.heap.size + 1]? = _
        rw [show w.heap.size + 1 = (w.heap.push (Obj.cells (strV (List.replicate j m)).toArray 9)).size by simp, Array.getElem?_push_size]
        simp
      · rw [List.length_append, List.length_append, List.length_take, strV_length, List.length_replicate]; omega
      · intro k hk
        rw [List.append_assoc]
        by_cases h1 : k < n
        · rw [List.getElem?_append_left (by rw [List.length_take]; omega), List.getElem?_take_of_lt h1]
          exact hf k h1
        · rw [List.getElem?_append_right (by rw [List.length_take]; omega), List.length_take, Nat.min_eq_left (by omega), List.getElem?_append_left (by rw [strV_length, List.length_replicate]; omega)]
          simp only [strV, List.map_replicate, List.getElem?_replicate]
          rw [if_pos (by omega)]
    · exact MPB.below ((((Below.refl _ _).alloc (Nat.le_refl _) _).drew).alloc (by simp) _)
    · exact ⟨rfl, rfl, rfl, by simp; omega, fun k hk _ => by
        have h := ((((Below.refl w.heap.size w).alloc (Nat.le_refl _) (.cells (strV (List.replicate j m)).toArray 9)).drew).alloc (by simp) (.cells ((cur.take n).toArray ++ (strV (List.replicate j m)).toArray ++ Builtin.zeroCells (Value.string { data := #[] }).cells (grownCap (w.alloc (.cells (strV (List.replicate j m)).toArray 9)) (n + j) cap 9 - (n + j))) 9)).block k hk
        exact h⟩

end Go.Proofs.YtalmoiogbdahcaaGreat

/- What the statements do with a list that came out. -/
namespace Go.Proofs.YtalmoiogbdahcaaGreat
open Go.RowKit

/-- a list that can be grown, written full with the mark. -/
def LFull (w : World) (l : Value) (m : ByteArray) : Prop :=
  (l = .slice none 0 0 ∨ ∃ b off, l = .slice (some ⟨b, off, none⟩) 0 0) ∨ ∃ g n cap cur, l = .slice (some ⟨g, 0, none⟩) n cap ∧ StrRow w g cur ∧ cur.length = cap ∧ n ≤ cap ∧ n ≤ 549755813888 ∧ ∀ i, i < n → cur[i]? = some (.string m)
theorem LFull.step {m : ByteArray} {w w' : World} {l : Value} (h : LFull w l m) (k : MPB m w w') : LFull w' l m := by
  rcases h with h | ⟨g, n, cap, cur, hv, hg, hc, hn, hm, hi⟩
  · exact Or.inl h
  · obtain ⟨c1, h1, l1, p1⟩ := k g cur hg
    exact Or.inr ⟨g, n, cap, c1, hv, h1, by omega, hn, hm, fun i hl => p1 i (hi i hl)⟩
theorem LFull.full {m : ByteArray} {w : World} {l : Value} (h : LFull w l m) : FullAt w l m := by
  rcases h with (rfl | ⟨b, off, rfl⟩) | ⟨g, n, cap, cur, rfl, hg, hc, hn, hm, hi⟩
  · exact ⟨[], Or.inl ⟨rfl, rfl⟩, Nat.zero_le _, rfl⟩
  · exact ⟨[], Or.inr ⟨b, off, 0, rfl, fun i x hx => by simp at hx⟩, Nat.zero_le _, rfl⟩
  · exact FullB.at (Or.inr ⟨g, n, cap, cur, rfl, hg, by omega, by unfold maxLen; omega, hi⟩)

theorem app_none (w : World) (a0 : Option Addr) (m : ByteArray) (j : Nat) (hj : 1 ≤ j) (hj3 : j ≤ 3) :
    ∃ gx nx cx w', (Builtin.append_ #[28, 28] 28 #[.slice a0 0 0, .slice (some ⟨w.heap.size, 0, none⟩) j j]).run Tryz.prog (w.alloc (.cells (strV (List.replicate j m)).toArray 9)) = .ok (.slice (some ⟨gx, 0, none⟩) nx cx) w' ∧
      FullB w' (.slice (some ⟨gx, 0, none⟩) nx cx) m ∧ Below w.heap.size w w' := by
  obtain ⟨i, hi, hz, hs, hby⟩ := info_str
  have hnews : ∀ k u, (strV (List.replicate j m))[k]? = some u → (w.alloc (.cells (strV (List.replicate j m)).toArray 9)).cell? ((⟨w.heap.size, 0, none⟩ : Addr).add k) = some u := by
    intro k u hu
    rw [add_at]
    refine row_cell (cs := strV (List.replicate j m)) (t := 9) (fz := (0, 0)) ?_ hu
    show (w.heap.push _)[w.heap.size]? = _
    simp
  have hfull : ∀ (cap : Nat) (c : Nat), FullB ((w.alloc (.cells (strV (List.replicate j m)).toArray 9)).drew.alloc (.cells ((strV (List.replicate j m)).toArray ++ Builtin.zeroCells (Value.string { data := #[] }).cells c) 9)) (.slice (some ⟨w.heap.size + 1, 0, none⟩) j cap) m := by
    intro cap c
    refine Or.inr ⟨w.heap.size + 1, j, cap, strV (List.replicate j m) ++ (Builtin.zeroCells (Value.string { data := #[] }).cells c).toList, rfl, ?_, ?_, by unfold maxLen; omega, ?_⟩
    · unfold StrRow
      show ((w.heap.push _).push _)[w.heap.size + 1]? = _
      rw [show w.heap.size + 1 = (w.heap.push (Obj.cells (strV (List.replicate j m)).toArray 9)).size by simp, Array.getElem?_push_size]
      simp
    · rw [List.length_append, strV_length, List.length_replicate]; omega
    · intro k hk
      rw [List.getElem?_append_left (by rw [strV_length, List.length_replicate]; omega)]
      simp only [strV, List.map_replicate, List.getElem?_replicate]
      rw [if_pos hk]
  have hbel : ∀ o, Below w.heap.size w ((w.alloc (.cells (strV (List.replicate j m)).toArray 9)).drew.alloc o) := fun o => (((Below.refl _ _).alloc (Nat.le_refl _) _).drew).alloc (by simp) _
  cases a0 with
  | none =>
    have hr := run_append_nil (P := Tryz.prog) (w.alloc (.cells (strV (List.replicate j m)).toArray 9)) 28 28 9 i (.string { data := #[] }) Tryz.underlying28 hi hz ⟨w.heap.size, 0, none⟩ j j (strV (List.replicate j m)) (by rw [hs, strV_length, List.length_replicate, Nat.mul_one]) hnews (by omega) (by omega) (by rw [hby]; omega)
    refine ⟨_, _, _, _, hr, ?_, hbel _⟩
    rw [show (w.alloc (.cells (strV (List.replicate j m)).toArray 9)).heap.size = w.heap.size + 1 by simp]
    exact hfull _ _
  | some a =>
    have hr := run_append_grow (P := Tryz.prog) (w.alloc (.cells (strV (List.replicate j m)).toArray 9)) 28 28 9 i (.string { data := #[] }) Tryz.underlying28 hi hz a 0 0 [] (by simp) (by intro k u hu; simp at hu) ⟨w.heap.size, 0, none⟩ j j (strV (List.replicate j m)) (by rw [hs, strV_length, List.length_replicate, Nat.mul_one]) hnews (by omega) (by omega) (growslice_fits (by omega) (by rw [hby]; omega))
    simp only [Nat.zero_add, Array.empty_append] at hr
    refine ⟨_, _, _, _, hr, ?_, hbel _⟩
    rw [show (w.alloc (.cells (strV (List.replicate j m)).toArray 9)).heap.size = w.heap.size + 1 by simp]
    exact hfull _ _

/-- the row that an append to a list may write: none, where it has no room. -/
def rowOf : Value → Option Nat
  | .slice (some a) n cap => if n = 0 ∧ cap = 0 then none else some a.block
  | _ => none
theorem app_L (w : World) (l : Value) (m : ByteArray) (j : Nat) (hj : 1 ≤ j) (hj3 : j ≤ 3) (h : LFull w l m) :
    ∃ gx nx cx w', (Builtin.append_ #[28, 28] 28 #[l, .slice (some ⟨w.heap.size, 0, none⟩) j j]).run Tryz.prog (w.alloc (.cells (strV (List.replicate j m)).toArray 9)) = .ok (.slice (some ⟨gx, 0, none⟩) nx cx) w' ∧
      FullB w' (.slice (some ⟨gx, 0, none⟩) nx cx) m ∧ MPB m w w' ∧ w.grownBy w' (rowOf l) := by
  rcases h with (rfl | ⟨b, off, rfl⟩) | ⟨g, n, cap, cur, rfl, hg, hc, hn, hm, hi⟩
  · obtain ⟨gx, nx, cx, w', hr, hf, hb⟩ := app_none w none m j hj hj3
    exact ⟨gx, nx, cx, w', hr, hf, MPB.below hb, ⟨hb.os, hb.tape, hb.output, hb.size, fun k hk _ => hb.block k hk⟩⟩
  · obtain ⟨gx, nx, cx, w', hr, hf, hb⟩ := app_none w (some ⟨b, off, none⟩) m j hj hj3
    exact ⟨gx, nx, cx, w', hr, hf, MPB.below hb, ⟨hb.os, hb.tape, hb.output, hb.size, fun k hk _ => hb.block k hk⟩⟩
  · obtain ⟨gx, nx, cx, w', hr, hf, hp, hk⟩ := app_full w g n cap cur m j hj hg hc hn (by omega) hi
    refine ⟨gx, nx, cx, w', hr, hf, hp, ?_⟩
    by_cases hz : n = 0 ∧ cap = 0
    · obtain ⟨rfl, rfl⟩ := hz
      obtain ⟨gy, ny, cy, w2, hr2, -, hb⟩ := app_none w (some ⟨g, 0, none⟩) m j hj hj3
      rw [hr] at hr2
      injection hr2 with e1 e2
      subst e2
      exact ⟨hb.os, hb.tape, hb.output, hb.size, fun k hk _ => hb.block k hk⟩
    · have e : rowOf (.slice (some ⟨g, 0, none⟩) n cap) = some g := by
        show (if n = 0 ∧ cap = 0 then none else some g) = some g
        rw [if_neg hz]
      rw [e]; exact hk

theorem Tryz.infoSl : (Tryz.prog.info? 28).map (fun i => (i.zero, i.size, i.bytes)) = some (some (.slice none 0 0), 1, 24) := by kernel_rfl
theorem info_sl : ∃ i, Tryz.prog.info? 28 = some i ∧ i.zero = some (.slice none 0 0) ∧ i.size = 1 ∧ i.bytes = 24 := by
  obtain ⟨i, hi, hzz⟩ := Option.map_eq_some_iff.1 Tryz.infoSl
  simp only [Prod.mk.injEq] at hzz
  exact ⟨i, hi, hzz.1, hzz.2.1, hzz.2.2⟩
/-- one list more, on a row of lists of the call's own: in its row, or in a new one. -/
theorem app_val (w : World) (base : Nat) (v : Value) (n : Nat) (us : List Value) (u : Value) (hu : u.oneCell' = true) (hown : w.ownsRow base 28 1 v n us) (hb : base ≤ w.heap.size) (hl : (n + 1) * 24 ≤ 140737488355328) :
    ∃ g c w', (Builtin.append_ #[59, 59] 59 #[v, .slice (some ⟨w.heap.size, 0, none⟩) 1 1]).run Tryz.prog (w.alloc (.cells #[u] 28)) = .ok (.slice (some ⟨g, 0, none⟩) (n + 1) c) w' ∧
      w'.ownsRow base 28 1 (.slice (some ⟨g, 0, none⟩) (n + 1) c) (n + 1) (us ++ [u]) ∧ w.grownBy w' v.ownBlock ∧ (v.ownBlock = some g ∨ w.heap.size ≤ g) := by
  obtain ⟨i, hi, hz, hs, hby⟩ := info_sl
  have hnews : ∀ j x, ([u] : List Value)[j]? = some x → (w.alloc (.cells #[u] 28)).cell? ((⟨w.heap.size, 0, none⟩ : Addr).add j) = some x := by
    intro j x hj
    match j, hj with
    | 0, hj => simp at hj; subst hj; simp [Addr.add]
  have hone : ∀ x ∈ ([u] : List Value), x.oneCell' = true := by intro x hx; simp at hx; subst hx; exact hu
  obtain ⟨v', w', hr, h2, h3, h4⟩ := run_append_own (P := Tryz.prog) (w.alloc (.cells #[u] 28)) base 59 59 28 i (.slice none 0 0) 1 24 Tryz.underlying59 hi hz hs hby rfl (by decide) v n us (hown.alloc _) ⟨w.heap.size, 0, none⟩ 1 1 [u] rfl hnews hone (by unfold maxLen; omega) (by omega) (by simp; omega)
  rcases h2.2 with ⟨hv, h0⟩ | ⟨g, cap, cur, hv, -⟩
  · omega
  subst hv
  refine ⟨g, cap, w', hr, h2, grown_alloc h3, ?_⟩
  have hown' := hown.alloc (.cells #[u] 28)
  rcases hown'.2 with ⟨rfl, rfl⟩ | ⟨g0, cap0, cur0, rfl, hbg, hg0, hnc, hcm, hcs, htake⟩
  · have hr2 := run_append_nil (P := Tryz.prog) (w.alloc (.cells #[u] 28)) 59 59 28 i (.slice none 0 0) Tryz.underlying59 hi hz ⟨w.heap.size, 0, none⟩ 1 1 [u] (by rw [hs]; rfl) hnews (by omega) (by omega) (by rw [hby]; omega)
    rw [hr] at hr2
    injection hr2 with e1 e2
    injection e1 with e3
    injection e3 with e4
    injection e4 with e5
    right; rw [e5]; simp
  · by_cases hroom : n + 1 ≤ cap0
    · have hr2 := run_append_room (P := Tryz.prog) (w.alloc (.cells #[u] 28)) 59 59 28 i Tryz.underlying59 hi g0 n cap0 cur0 hg0 ⟨w.heap.size, 0, none⟩ 1 1 [u] (by rw [hs]; rfl) hnews hone hroom (by rw [hs]; simp; omega)
      rw [hr] at hr2
      injection hr2 with e1 e2
      injection e1 with e3
      injection e3 with e4
      injection e4 with e5
      left; rw [e5]; rfl
    · have hr2 := run_append_grow (P := Tryz.prog) (w.alloc (.cells #[u] 28)) 59 59 28 i (.slice none 0 0) Tryz.underlying59 hi hz ⟨g0, 0, none⟩ n cap0 us (by rw [hs]; exact hown.1) (hown'.cells (g := g0) rfl) ⟨w.heap.size, 0, none⟩ 1 1 [u] (by rw [hs]; rfl) hnews (by omega) (by omega) (growslice_fits (by omega) (by rw [hby]; omega))
      rw [hr] at hr2
      injection hr2 with e1 e2
      injection e1 with e3
      injection e3 with e4
      injection e4 with e5
      right; rw [e5]; simp

end Go.Proofs.YtalmoiogbdahcaaGreat

/- What the statements' owner does with a list that came out: the whole of it. -/
namespace Go.Proofs.YtalmoiogbdahcaaGreat
open Go.RowKit

theorem fullB_one {w : World} {v : Value} {m : ByteArray} (h : FullB w v m) : v.oneCell' = true := by
  rcases h with rfl | ⟨g, n, cap, cur, rfl, -⟩ <;> rfl
theorem lfull_one {w : World} {v : Value} {m : ByteArray} (h : LFull w v m) : v.oneCell' = true := by
  rcases h with (rfl | ⟨b, off, rfl⟩) | ⟨g, n, cap, cur, rfl, -⟩ <;> rfl
/-- a row of texts is no row of lists, nor the owner's own cells. -/
theorem lfull_row {w : World} {l : Value} {m : ByteArray} (h : LFull w l m) {k : Nat} (hk : rowOf l = some k) : ∃ cur, StrRow w k cur := by
  rcases h with (rfl | ⟨b, off, rfl⟩) | ⟨g, n, cap, cur, rfl, hg, -⟩
  · cases hk
  · have : rowOf (.slice (some ⟨b, off, none⟩) 0 0) = none := rfl
    rw [this] at hk; cases hk
  · have e : rowOf (.slice (some ⟨g, 0, none⟩) n cap) = none ∨ rowOf (.slice (some ⟨g, 0, none⟩) n cap) = some g := by
      show (if n = 0 ∧ cap = 0 then none else some g) = none ∨ (if n = 0 ∧ cap = 0 then none else some g) = some g
      split
      · exact Or.inl rfl
      · exact Or.inr rfl
    rcases e with e | e
    · rw [e] at hk; cases hk
    · rw [e] at hk; injection hk with hk; subst hk; exact ⟨cur, hg⟩
theorem row_type {w : World} {g : Nat} {a b : List Value} {s t : TypeId} {f f' : Nat × Nat} (h : w.heap[g]? = some (.cells a.toArray s f)) (k : w.heap[g]? = some (.cells b.toArray t f')) : s = t := by
  rw [h] at k; injection k with k; injection k
theorem lw_kept {w w' : World} {b : Nat} {ps l1 l3 : Value} {row : Option Nat} (h : LwAt w b ps l1 l3) (hk : w.grownBy w' row) (hne : row ≠ some b) : LwAt w' b ps l1 l3 := by
  unfold LwAt at h ⊢; rw [hk.block b (row_lt h) (Ne.symm hne)]; exact h
theorem owns_kept {w w' : World} {base : Nat} {v : Value} {n : Nat} {us : List Value} {row : Option Nat} (h : w.ownsRow base 28 1 v n us) (hk : w.grownBy w' row) (hne : ∀ k, v.ownBlock = some k → row ≠ some k) : w'.ownsRow base 28 1 v n us := by
  refine h.kept hk ?_
  cases e : v.ownBlock with
  | none => exact Or.inl rfl
  | some k => exact Or.inr (fun e2 => hne k e e2.symm)
theorem owns_type {w : World} {base : Nat} {v : Value} {n : Nat} {us : List Value} (h : w.ownsRow base 28 1 v n us) {k : Nat} (hk : v.ownBlock = some k) : ∃ cur : List Value, w.heap[k]? = some (.cells cur.toArray 28 (0, 0)) := by
  rcases h.2 with ⟨rfl, -⟩ | ⟨g, cap, cur, rfl, -, hh, -⟩
  · cases hk
  · have e : g = k := by injection hk
    subst e
    exact ⟨cur.toList, by simpa using hh⟩
theorem mpb_kept {m : ByteArray} {w w' : World} {row : Option Nat} (hk : w.grownBy w' row) (hne : ∀ g cur, StrRow w g cur → row ≠ some g) : MPB m w w' :=
  MPB.of_same fun g cur hg => hk.block g (row_lt hg) (Ne.symm (hne g cur hg))
theorem mpb_cell {m : ByteArray} {w : World} {b : Nat} {ps l1 l3 : Value} (h : LwAt w b ps l1 l3) (j : Nat) (u : Value) : MPB m w (w.setCell ⟨b, j, none⟩ u) :=
  MPB.of_same fun g cur hg => Below.heap_setCell _ _ _ _ (fun e => by
    have e' : g = b := e
    subst e'
    have := row_type hg h
    revert this; decide)
theorem lw_set1 {w : World} {b : Nat} {ps l1 l3 : Value} (h : LwAt w b ps l1 l3) (u : Value) : LwAt (w.setCell ⟨b, 1, none⟩ u) b ps u l3 := row_set h 1 u
theorem lw_set2 {w : World} {b : Nat} {ps l1 l3 : Value} (h : LwAt w b ps l1 l3) (u : Value) : LwAt (w.setCell ⟨b, 2, none⟩ u) b ps l1 u := row_set h 2 u
theorem owns_set {w : World} {base b : Nat} {v : Value} {n : Nat} {us : List Value} (h : w.ownsRow base 28 1 v n us) (hb : b < base) (j : Nat) (u : Value) : (w.setCell ⟨b, j, none⟩ u).ownsRow base 28 1 v n us := ownsRow_setCell_below h hb u

/-- a step's frame: what may turn is the owner's cells, its two rows, the list's row. -/
def Fr (b : Nat) (l : Value) (r1 r3 : Option Nat) (w w' : World) : Prop := w'.os = w.os ∧ w'.tape = w.tape ∧ w'.output = w.output ∧ w.heap.size ≤ w'.heap.size ∧ ∀ k, k < w.heap.size → k ≠ b → rowOf l ≠ some k → r1 ≠ some k → r3 ≠ some k → w'.heap[k]? = w.heap[k]?

structure St (w : World) (b base : Nat) (ps l1 l3 l : Value) (n1 n3 : Nat) (us ws : List Value) (m : ByteArray) : Prop where
  lw : LwAt w b ps l1 l3
  o1 : w.ownsRow base 28 1 l1 n1 us
  o3 : w.ownsRow base 28 1 l3 n3 ws
  lf : LFull w l m
  sep : ∀ k, l1.ownBlock = some k → l3.ownBlock ≠ some k
  hb : b < base
  hbase : base ≤ w.heap.size

theorem row_not {w : World} {l : Value} {m : ByteArray} (h : LFull w l m) {base : Nat} {v : Value} {n : Nat} {us : List Value} (o : w.ownsRow base 28 1 v n us) : ∀ k, v.ownBlock = some k → rowOf l ≠ some k := by
  intro k hk e
  obtain ⟨cur, hc⟩ := lfull_row h e
  obtain ⟨c2, hd⟩ := owns_type o hk
  have := row_type hc hd
  revert this; decide
theorem row_notb {w : World} {l : Value} {m : ByteArray} (h : LFull w l m) {b : Nat} {ps l1 l3 : Value} (o : LwAt w b ps l1 l3) : rowOf l ≠ some b := by
  intro e
  obtain ⟨cur, hc⟩ := lfull_row h e
  have := row_type hc o
  revert this; decide

theorem stA {w : World} {b base : Nat} {ps l1 l3 l : Value} {n1 n3 : Nat} {us ws : List Value} {m : ByteArray} (s : St w b base ps l1 l3 l n1 n3 us ws m) (j : Nat) (hj : 1 ≤ j) (hj3 : j ≤ 3) :
    ∃ gx nx cx w', (Builtin.append_ #[28, 28] 28 #[l, .slice (some ⟨w.heap.size, 0, none⟩) j j]).run Tryz.prog (w.alloc (.cells (strV (List.replicate j m)).toArray 9)) = .ok (.slice (some ⟨gx, 0, none⟩) nx cx) w' ∧
      FullB w' (.slice (some ⟨gx, 0, none⟩) nx cx) m ∧ MPB m w w' ∧ St w' b base ps l1 l3 l n1 n3 us ws m ∧ w.grownBy w' (rowOf l) := by
  obtain ⟨gx, nx, cx, w', hr, hf, hp, hk⟩ := app_L w l m j hj hj3 s.lf
  exact ⟨gx, nx, cx, w', hr, hf, hp, ⟨lw_kept s.lw hk (row_notb s.lf s.lw), owns_kept s.o1 hk (row_not s.lf s.o1), owns_kept s.o3 hk (row_not s.lf s.o3), s.lf.step hp, s.sep, s.hb, Nat.le_trans s.hbase hk.size⟩, hk⟩

theorem own_notb {w : World} {b base : Nat} {v : Value} {n : Nat} {us : List Value} (o : w.ownsRow base 28 1 v n us) (hb : b < base) : v.ownBlock ≠ some b := by
  intro e
  have := (o.lt b e).1
  omega
theorem own_str {w : World} {base : Nat} {v : Value} {n : Nat} {us : List Value} (o : w.ownsRow base 28 1 v n us) : ∀ g cur, StrRow w g cur → v.ownBlock ≠ some g := by
  intro g cur hg e
  obtain ⟨c2, hd⟩ := owns_type o e
  have := row_type hg hd
  revert this; decide

theorem stB {w : World} {b base : Nat} {ps l1 l3 l : Value} {n1 n3 : Nat} {us ws : List Value} {m : ByteArray} (s : St w b base ps l1 l3 l n1 n3 us ws m) (u : Value) (hu : u.oneCell' = true) (hl : (n1 + 1) * 24 ≤ 140737488355328) :
    ∃ g c w', (Builtin.append_ #[59, 59] 59 #[l1, .slice (some ⟨w.heap.size, 0, none⟩) 1 1]).run Tryz.prog (w.alloc (.cells #[u] 28)) = .ok (.slice (some ⟨g, 0, none⟩) (n1 + 1) c) w' ∧
      LwAt w' b ps l1 l3 ∧ MPB m w (w'.setCell ⟨b, 1, none⟩ (.slice (some ⟨g, 0, none⟩) (n1 + 1) c)) ∧ St (w'.setCell ⟨b, 1, none⟩ (.slice (some ⟨g, 0, none⟩) (n1 + 1) c)) b base ps (.slice (some ⟨g, 0, none⟩) (n1 + 1) c) l3 l (n1 + 1) n3 (us ++ [u]) ws m ∧ w.grownBy w' l1.ownBlock ∧ (l1.ownBlock = some g ∨ w.heap.size ≤ g) := by
  obtain ⟨g, c, w', hr, ho, hk, hblk⟩ := app_val w base l1 n1 us u hu s.o1 s.hbase hl
  have hlw := lw_kept s.lw hk (own_notb s.o1 s.hb)
  have hmp : MPB m w (w'.setCell ⟨b, 1, none⟩ (.slice (some ⟨g, 0, none⟩) (n1 + 1) c)) := (mpb_kept hk (own_str s.o1)).trans (mpb_cell hlw 1 _)
  refine ⟨g, c, w', hr, hlw, hmp, ⟨lw_set1 hlw _, owns_set ho s.hb _ _, owns_set (owns_kept s.o3 hk (fun k hk3 e => s.sep k e hk3)) s.hb _ _, s.lf.step hmp, ?_, s.hb, ?_⟩, hk, hblk⟩
  · intro k hk1 hk3
    have e : g = k := by injection hk1
    subst e
    rcases hblk with h | h
    · exact s.sep g h hk3
    · have := (s.o3.lt g hk3).2; omega
  · have := hk.size; have := s.hbase; simp [World.setCell]; omega

theorem stC {w : World} {b base : Nat} {ps l1 l3 l : Value} {n1 n3 : Nat} {us ws : List Value} {m : ByteArray} (s : St w b base ps l1 l3 l n1 n3 us ws m) (u : Value) (hu : u.oneCell' = true) (hl : (n3 + 1) * 24 ≤ 140737488355328) :
    ∃ g c w', (Builtin.append_ #[59, 59] 59 #[l3, .slice (some ⟨w.heap.size, 0, none⟩) 1 1]).run Tryz.prog (w.alloc (.cells #[u] 28)) = .ok (.slice (some ⟨g, 0, none⟩) (n3 + 1) c) w' ∧
      LwAt w' b ps l1 l3 ∧ MPB m w (w'.setCell ⟨b, 2, none⟩ (.slice (some ⟨g, 0, none⟩) (n3 + 1) c)) ∧ St (w'.setCell ⟨b, 2, none⟩ (.slice (some ⟨g, 0, none⟩) (n3 + 1) c)) b base ps l1 (.slice (some ⟨g, 0, none⟩) (n3 + 1) c) l n1 (n3 + 1) us (ws ++ [u]) m ∧ w.grownBy w' l3.ownBlock ∧ (l3.ownBlock = some g ∨ w.heap.size ≤ g) := by
  obtain ⟨g, c, w', hr, ho, hk, hblk⟩ := app_val w base l3 n3 ws u hu s.o3 s.hbase hl
  have hlw := lw_kept s.lw hk (own_notb s.o3 s.hb)
  have hmp : MPB m w (w'.setCell ⟨b, 2, none⟩ (.slice (some ⟨g, 0, none⟩) (n3 + 1) c)) := (mpb_kept hk (own_str s.o3)).trans (mpb_cell hlw 2 _)
  refine ⟨g, c, w', hr, hlw, hmp, ⟨lw_set2 hlw _, owns_set (owns_kept s.o1 hk (fun k hk1 e => s.sep k hk1 e)) s.hb _ _, owns_set ho s.hb _ _, s.lf.step hmp, ?_, s.hb, ?_⟩, hk, hblk⟩
  · intro k hk1 hk3
    have e : g = k := by injection hk3
    subst e
    rcases hblk with h | h
    · exact s.sep g hk1 h
    · have := (s.o1.lt g hk1).2; omega
  · have := hk.size; have := s.hbase; simp [World.setCell]; omega

end Go.Proofs.YtalmoiogbdahcaaGreat
