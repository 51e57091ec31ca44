import Derived.Test.YtalmoiogbdahcaaGreatXGramB
import Derived.Test.YtalmoiogbdahcaaGreatXGhA

/- Which nodes have a rule, and what is wrong with a part of a batch: the program's answer is the document's. -/
namespace Go.Proofs.YtalmoiogbdahcaaGreat
open Go.RowKit

theorem cut_none (s : ByteArray) (l : List UInt8) (c : UInt8) (h : s.data.toList = l) (hx : ∀ x ∈ l, x ≠ c) : cutA s c.toNat = s := by
  unfold cutA idxB
  have : s.data.toList.findIdx? (fun x => (x.toNat : Int) == (c.toNat : Int)) = none := by
    rw [List.findIdx?_eq_none_iff]
    intro x hx'
    rw [h] at hx'
    have := hx x hx'
    rw [beq_eq_false_iff_ne]
    intro e; exact this ((u8i x c).1 e)
  rw [this]
theorem ofS_node (k n r : List UInt8) (hk : nameL k = true) (hn : nameL n = true) : (ofS (mk (k ++ 58 :: (n ++ 35 :: r)))).toList = k ++ 35 :: r := by
  have h1 : ∀ x ∈ k ++ 58 :: n, x ≠ (35 : UInt8) := by
    intro x hx
    simp only [List.mem_append, List.mem_cons] at hx
    rcases hx with h | rfl | h
    · exact noMark_ne (nameL_noMark hk) m35 x h
    · decide
    · exact noMark_ne (nameL_noMark hn) m35 x h
  obtain ⟨a1, a2, -⟩ := cut_at (mk (k ++ 58 :: (n ++ 35 :: r))) (k ++ 58 :: n) r 35 (by rw [mk_list]; simp) h1
  have h2 : ∀ x ∈ k, x ≠ (58 : UInt8) := noMark_ne (nameL_noMark hk) m58
  obtain ⟨b1, -, -⟩ := cut_at (mk (k ++ 58 :: n)) k n 58 (mk_list _) h2
  have a1' : cutA (mk (k ++ 58 :: (n ++ 35 :: r))) 35 = mk (k ++ 58 :: n) := a1
  have a2' : cutZ (mk (k ++ 58 :: (n ++ 35 :: r))) 35 = mk r := a2
  have b1' : cutA (mk (k ++ 58 :: n)) 58 = mk k := b1
  unfold ofS kindOf relOf
  rw [a1', a2', b1', Lib.toList_data]
  simp [mk, ByteArray.data_append]

/-- all rules right, none of them twice. -/
theorem ok_all {xs : List ByteArray} (h : openErr xs = none) : ∀ (j : Nat) (y : ByteArray), xs[j]? = some y → readS y = true := by
  intro j y hy
  unfold openErr at h
  rw [List.findSome?_eq_none_iff] at h
  have hj := (List.getElem?_eq_some_iff.1 hy).1
  have := h j (List.mem_range.2 hj)
  rw [Option.map_eq_none_iff] at this
  unfold faultK at this
  rw [hy] at this
  cases e : readS y
  · simp [e] at this
  · rfl
theorem rule_found {w : World} {lo : Nat} {xs : List ByteArray} {m : List (Value × Value)} (h : RMap w lo xs m) (hm : (m.map (·.1)).Nodup) (ho : openErr xs = none) (k n r : List UInt8) (hk : nameL k = true) (hn : nameL n = true) :
    ((getM m (headV (mk k) (mk r))).isSome = true ↔ (ruleL (ruleOfs xs) (mk (k ++ 58 :: (n ++ 35 :: r)))).size ≠ 0) := by
  have hval := ok_all ho
  have hkey : ∀ (j : Nat) (y : ByteArray), xs[j]? = some y → ((readOf y).toList = k ++ 35 :: r ↔ headV (headKind (rd0 y)) (headRel (rd0 y)) = headV (mk k) (mk r)) := by
    intro j y hy
    obtain ⟨-, k', r', wy, op, ts, d⟩ := read_rule y (hval j y hy)
    obtain ⟨a1, a2, -, -⟩ := rule_of y d
    rw [a1, a2, (rule_read y d).1, Lib.toList_data, mk_list]
    constructor
    · intro h
      have h1 : ∀ z ∈ k', z ≠ (35 : UInt8) := noMark_ne (nameL_noMark d.hk) m35
      have h2 : ∀ z ∈ k, z ≠ (35 : UInt8) := noMark_ne (nameL_noMark hk) m35
      have e1 := idx_at k' r' 35 h1
      have e2 := idx_at k r 35 h2
      rw [h, e2] at e1
      have el : k.length = k'.length := by injection e1
      have := List.append_inj h el.symm
      have t := this.2
      injection t with _ t
      rw [this.1, t]
    · intro h
      obtain ⟨h1, h2⟩ := headV_inj h
      have e1 : k' = k := congrArg (fun s => s.data.toList) h1
      have e2 : r' = r := congrArg (fun s => s.data.toList) h2
      rw [e1, e2]
  unfold ruleL
  rw [ofS_node k n r hk hn]
  cases hf : (ruleOfs xs).find? (fun x => x.1.toList == k ++ 35 :: r) with
  | none =>
    have hno : getM m (headV (mk k) (mk r)) = none := by
      refine getM_none fun p hp e => ?_
      obtain ⟨j, hj⟩ := List.mem_iff_getElem?.1 hp
      have hjl := (List.getElem?_eq_some_iff.1 hj).1
      rw [h.len] at hjl
      obtain ⟨y, hy⟩ : ∃ y, xs[j]? = some y := ⟨_, List.getElem?_eq_getElem hjl⟩
      have hpk := h.key j y p hy hj
      have hr := (hkey j y hy).2 (hpk.symm.trans e)
      rw [List.find?_eq_none] at hf
      have := hf (readOf y, readWay y) (List.mem_map.2 ⟨y, List.mem_of_getElem? hy, rfl⟩)
      simp [hr] at this
    rw [hno]
    simp [ByteArray.size]
  | some x =>
    have hx := List.find?_some hf
    obtain ⟨y, hy, rfl⟩ := List.mem_map.1 (List.mem_of_find?_eq_some hf)
    obtain ⟨j, hj⟩ := List.mem_iff_getElem?.1 hy
    simp at hx
    have hh := (hkey j y hj).1 hx
    have hjl := (List.getElem?_eq_some_iff.1 hj).1
    obtain ⟨p, hp⟩ : ∃ p, m[j]? = some p := ⟨_, List.getElem?_eq_getElem (by rw [h.len]; exact hjl)⟩
    have hpk := (h.key j y p hj hp).trans hh
    have hg : getM m (headV (mk k) (mk r)) = some p.2 := getM_of hm (by rw [← hpk]; exact List.mem_of_getElem? hp)
    rw [hg]
    obtain ⟨-, k', r', wy, op, ts, d⟩ := read_rule y (hval j y hj)
    have hw := (rule_read y d).2.1
    simp only [Option.isSome_some, true_iff]
    rw [hw, mk_size]
    exact fun e => gr_ne d.gr (List.eq_nil_of_length_eq_zero e)

/-- what the program finds wrong. -/
noncomputable def faultG (m : List (Value × Value)) (s : ByteArray) : Int :=
  if (preB s { data := #[43] } || preB s { data := #[45] }) = false then 4
  else if tupOk (s.extract 1 s.size) = false then 4
  else if (getM m (headV (tupNode (s.extract 1 s.size)).kind (tupNode (s.extract 1 s.size)).rel)).isSome = false ∨ ((tupSubj (s.extract 1 s.size)).rel.size ≠ 0 ∧ (getM m (headV (tupSubj (s.extract 1 s.size)).kind (tupSubj (s.extract 1 s.size)).rel)).isSome = false) then 5
  else 0
theorem signed_same (s : ByteArray) : (preB s { data := #[43] } || preB s { data := #[45] }) = false ↔ (s.size = 0 ∨ (byteAt s 0 ≠ 43 ∧ byteAt s 0 ≠ 45)) := by
  have h1 : ∀ c : UInt8, preB s { data := #[c] } = true ↔ (s.size ≠ 0 ∧ byteAt s 0 = c.toNat) := by
    intro c
    rw [pre_iff]
    unfold byteAt
    rw [size_len]
    cases s.data.toList with
    | nil => simp
    | cons x l =>
      simp only [List.length_cons]
      constructor
      · rintro ⟨r, hr⟩; injection hr with h _; exact ⟨by omega, by rw [h]; rfl⟩
      · rintro ⟨-, h⟩
        have : x = c := (u8i x c).1 h
        exact ⟨l, by rw [this]; rfl⟩
  rw [Bool.or_eq_false_iff]
  have e1 : preB s { data := #[43] } = false ↔ ¬ (s.size ≠ 0 ∧ byteAt s 0 = 43) := by rw [← Bool.not_eq_true, h1 43]; exact Iff.rfl
  have e2 : preB s { data := #[45] } = false ↔ ¬ (s.size ≠ 0 ∧ byteAt s 0 = 45) := by rw [← Bool.not_eq_true, h1 45]; exact Iff.rfl
  rw [e1, e2]
  by_cases h0 : s.size = 0 <;> simp [h0]
theorem fault_same {w : World} {lo : Nat} {xs : List ByteArray} {m : List (Value × Value)} (h : RMap w lo xs m) (hm : (m.map (·.1)).Nodup) (ho : openErr xs = none) (s : ByteArray) : faultG m s = faultS (ruleOfs xs) s := by
  unfold faultG faultS
  by_cases h1 : (preB s { data := #[43] } || preB s { data := #[45] }) = false
  · rw [if_pos h1, if_pos ((signed_same s).1 h1)]
  · rw [if_neg h1, if_neg (fun e => h1 ((signed_same s).2 e)), tuple_same]
    cases ht : tupOk (s.extract 1 s.size)
    · simp
    · obtain ⟨k, n, r, k2, n2, o, d⟩ := parts_of _ ht
      obtain ⟨-, p1, p2⟩ := tup_of _ k n r k2 n2 o d
      obtain ⟨c1, c2, -⟩ := tup_cut _ k n r k2 n2 o d
      rw [c1, c2]
      simp only [Bool.true_eq_false, if_false]
      have q1 := rule_found h hm ho k n r d.hk d.hn
      rw [p1, p2]
      dsimp only
      cases o with
      | none =>
        have hnode : nodeS (mk (k2 ++ 58 :: (n2 ++ otail none))) = false := by
          cases e : nodeS (mk (k2 ++ 58 :: (n2 ++ otail none)))
          · rfl
          · exfalso
            unfold nodeS at e
            simp only [Bool.and_eq_true] at e
            have t := cut_of _ 35 e.1.1
            have : (35 : UInt8) ∈ k2 ++ 58 :: (n2 ++ []) := by
              have t' : k2 ++ 58 :: (n2 ++ []) = _ := t
              rw [t']; simp
            simp only [List.append_nil, List.mem_append, List.mem_cons] at this
            rcases this with h | h | h
            · exact noMark_ne (nameL_noMark d.hk2) m35 _ h rfl
            · exact absurd h (by decide)
            · exact noMark_ne (nameL_noMark d.hn2) m35 _ h rfl
        rw [hnode]
        have e1 : ((getM m (headV (mk k) (mk r))).isSome = false) ↔ (ruleL (ruleOfs xs) (mk (k ++ 58 :: (n ++ 35 :: r)))).size = 0 := by
          rw [← Bool.not_eq_true, q1]; simp
        have hz : ¬ ((orel none).size ≠ 0) := fun e => e rfl
        by_cases ha : (getM m (headV (mk k) (mk r))).isSome = false
        · rw [if_pos (Or.inl ha), if_pos (Or.inl (e1.1 ha))]
        · rw [if_neg (by rintro (h | h); exact ha h; exact hz h.1), if_neg (by rintro (h | h); exact ha (e1.2 h); exact absurd h.1 (by decide))]
      | some x =>
        have hx := d.ho x rfl
        have hnode : nodeS (mk (k2 ++ 58 :: (n2 ++ otail (some x)))) = true := nodeS_ok k2 n2 x d.hk2 d.hn2 hx
        rw [hnode]
        have q2 := rule_found h hm ho k2 n2 x d.hk2 d.hn2
        have e1 : ((getM m (headV (mk k) (mk r))).isSome = false) ↔ (ruleL (ruleOfs xs) (mk (k ++ 58 :: (n ++ 35 :: r)))).size = 0 := by
          rw [← Bool.not_eq_true, q1]; simp
        have e2 : ((getM m (headV (mk k2) (mk x))).isSome = false) ↔ (ruleL (ruleOfs xs) (mk (k2 ++ 58 :: (n2 ++ 35 :: x)))).size = 0 := by
          rw [← Bool.not_eq_true, q2]; simp
        have hsz : (mk x).size ≠ 0 := by rw [mk_size]; exact fun e => nameL_ne hx (List.eq_nil_of_length_eq_zero e)
        have hrel : orel (some x) = mk x := rfl
        rw [hrel]
        have eo : otail (some x) = 35 :: x := rfl
        rw [eo]
        by_cases ha : (getM m (headV (mk k) (mk r))).isSome = false
        · rw [if_pos (Or.inl ha), if_pos (Or.inl (e1.1 ha))]
        · by_cases hb : (getM m (headV (mk k2) (mk x))).isSome = false
          · rw [if_pos (Or.inr ⟨hsz, hb⟩), if_pos (Or.inr ⟨rfl, e2.1 hb⟩)]
          · rw [if_neg (by rintro (h | h); exact ha h; exact hb h.2), if_neg (by rintro (h | h); exact ha (e1.2 h); exact hb (e2.2 h.2))]

end Go.Proofs.YtalmoiogbdahcaaGreat
