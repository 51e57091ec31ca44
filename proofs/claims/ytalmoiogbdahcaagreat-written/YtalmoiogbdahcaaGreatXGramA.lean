import Derived.Test.YtalmoiogbdahcaaGreatXWrdC

/- Names at the front of a text: what the program reads is what the document calls a name. -/
namespace Go.Proofs.YtalmoiogbdahcaaGreat
open Go.RowKit

theorem tail_ne {n : Nat} {a l : Int} {r : List UInt8} (h : tailL n a l r ≠ 0) : n ≤ r.length ∧ follow (r.take n) = true ∧ codeBad l (foldC a (r.take n)) = false ∧ tailL n a l r = n + 1 := by
  unfold tailL at h ⊢
  by_cases h1 : r.length < n
  · rw [if_pos h1] at h; exact absurd rfl h
  rw [if_neg h1] at h ⊢
  by_cases h2 : follow (r.take n) = false
  · rw [if_pos h2] at h; exact absurd rfl h
  rw [if_neg h2] at h ⊢
  by_cases h3 : codeBad l (foldC a (r.take n)) = true
  · rw [if_pos h3] at h; exact absurd rfl h
  rw [if_neg h3]
  exact ⟨by omega, by simpa using h2, by simpa using h3, rfl⟩
theorem tail_same {n : Nat} {a l : Int} {r r' : List UInt8} (h : tailL n a l r ≠ 0) (hl : n ≤ r'.length) (ht : r'.take n = r.take n) : tailL n a l r' = n + 1 := by
  obtain ⟨-, h2, h3, -⟩ := tail_ne h
  unfold tailL
  rw [if_neg (by omega), ht, if_neg (by rw [h2]; simp), if_neg (by rw [h3]; simp)]

/-- of a good rune: its first byte and the others; a text that begins alike begins with the same rune. -/
theorem size_cases (c : UInt8) (r : List UInt8) (h : sizeL (c :: r) ≠ 0) :
    (sizeL (c :: r) = 1 ∧ (c.toNat : Int) < 128 ∧ ∀ r', sizeL (c :: r') = 1) ∨
    ∃ n, 1 ≤ n ∧ sizeL (c :: r) = n + 1 ∧ n ≤ r.length ∧ follow (r.take n) = true ∧ ∀ r' : List UInt8, n ≤ r'.length → r'.take n = r.take n → sizeL (c :: r') = n + 1 := by
  rw [sizeL_cons] at h ⊢
  by_cases h1 : (c.toNat : Int) < 128
  · left
    rw [if_pos h1]
    exact ⟨rfl, h1, fun r' => by rw [sizeL_cons, if_pos h1]⟩
  right
  rw [if_neg h1] at h ⊢
  by_cases h2 : 194 ≤ (c.toNat : Int) ∧ (c.toNat : Int) < 224
  · rw [if_pos h2] at h ⊢
    obtain ⟨q1, q2, -, q4⟩ := tail_ne h
    exact ⟨1, by omega, q4, q1, q2, fun r' hl ht => by rw [sizeL_cons, if_neg h1, if_pos h2]; exact tail_same h hl ht⟩
  rw [if_neg h2] at h ⊢
  by_cases h3 : 224 ≤ (c.toNat : Int) ∧ (c.toNat : Int) < 240
  · rw [if_pos h3] at h ⊢
    obtain ⟨q1, q2, -, q4⟩ := tail_ne h
    exact ⟨2, by omega, q4, q1, q2, fun r' hl ht => by rw [sizeL_cons, if_neg h1, if_neg h2, if_pos h3]; exact tail_same h hl ht⟩
  rw [if_neg h3] at h ⊢
  by_cases h4 : 240 ≤ (c.toNat : Int) ∧ (c.toNat : Int) < 245
  · rw [if_pos h4] at h ⊢
    obtain ⟨q1, q2, -, q4⟩ := tail_ne h
    exact ⟨3, by omega, q4, q1, q2, fun r' hl ht => by rw [sizeL_cons, if_neg h1, if_neg h2, if_neg h3, if_pos h4]; exact tail_same h hl ht⟩
  rw [if_neg h4] at h
  exact absurd rfl h

theorem size_append (c : UInt8) (r b : List UInt8) (h : sizeL (c :: r) ≠ 0) : sizeL (c :: (r ++ b)) = sizeL (c :: r) := by
  rcases size_cases c r h with ⟨h1, -, h2⟩ | ⟨n, -, h1, hl, -, h2⟩
  · rw [h1, h2]
  · rw [h1]; exact h2 _ (by simp; omega) (List.take_append_of_le_length hl)
theorem size_take (c : UInt8) (r : List UInt8) (n : Nat) (h : sizeL (c :: r) ≠ 0) (hn : sizeL (c :: r) ≤ n + 1) : sizeL (c :: r.take n) = sizeL (c :: r) := by
  rcases size_cases c r h with ⟨h1, -, h2⟩ | ⟨m, -, h1, hl, -, h2⟩
  · rw [h1, h2]
  · rw [h1]; exact h2 _ (by simp; omega) (by rw [List.take_take, Nat.min_eq_left (by omega)])

def noMark (l : List UInt8) : Prop := ∀ x ∈ l, markB x.toNat = false
theorem noMark_take {l : List UInt8} {n : Nat} (h1 : noMark (l.take n)) (h2 : noMark (l.drop n)) : noMark l := by
  intro x hx
  rw [← List.take_append_drop n l] at hx
  rcases List.mem_append.1 hx with h | h
  · exact h1 x h
  · exact h2 x h
theorem follow_noMark {l : List UInt8} (h : follow l = true) : noMark l := by
  intro x hx
  unfold follow at h
  rw [List.all_eq_true] at h
  have := h x hx
  simp at this
  exact mark_high _ (by omega)

theorem rune_noMark (c : UInt8) (r : List UInt8) (h : sizeL (c :: r) ≠ 0) (hb : badHead c.toNat = false) : noMark ((c :: r).take (sizeL (c :: r))) := by
  have hc : markB c.toNat = false := by
    unfold badHead at hb; simp at hb; exact hb.1.1
  rcases size_cases c r h with ⟨h1, -, -⟩ | ⟨n, -, h1, -, hf, -⟩
  · rw [h1]; intro x hx; simp at hx; rw [hx]; exact hc
  · rw [h1]
    intro x hx
    rw [List.take_succ_cons] at hx
    rcases List.mem_cons.1 hx with h | h
    · rw [h]; exact hc
    · exact follow_noMark hf x h

theorem nameR_noMark : ∀ (r : Nat) (l : List UInt8), nameR r l = true → noMark l := by
  intro r
  induction r with
  | zero => intro l h; simp [nameR] at h
  | succ r ih =>
    intro l h
    cases l with
    | nil => intro x hx; cases hx
    | cons c l =>
      by_cases hg : sizeL (c :: l) = 0 ∨ badHead c.toNat = true
      · rw [nameR_bad r c l hg] at h; cases h
      · have h0 : sizeL (c :: l) ≠ 0 := fun e => hg (Or.inl e)
        have hb : badHead c.toNat = false := by
          cases e : badHead c.toNat
          · rfl
          · exact absurd (Or.inr e) hg
        rw [nameR_good r c l h0 hb] at h
        exact noMark_take (rune_noMark c l h0 hb) (ih _ h)

/-- what ends a name: nothing, or a mark. -/
def ends (b : List UInt8) : Prop := b = [] ∨ ∃ c r, b = c :: r ∧ markB c.toNat = true
theorem mark_bad {c : UInt8} (h : markB c.toNat = true) : badHead c.toNat = true := by unfold badHead; rw [h]; rfl

theorem nl_of_name : ∀ (r : Nat) (a b : List UInt8), ends b → nameR (r + 1) a = true → nl r (a ++ b) = some a.length := by
  intro r
  induction r with
  | zero =>
    intro a b hb h
    cases a with
    | nil =>
      rcases hb with rfl | ⟨c, r, rfl, hm⟩
      · rfl
      · exact nl_bad _ _ _ (Or.inr (mark_bad hm))
    | cons c l =>
      by_cases hg : sizeL (c :: l) = 0 ∨ badHead c.toNat = true
      · rw [nameR_bad _ c l hg] at h; cases h
      · rw [nameR_good _ c l (fun e => hg (Or.inl e)) (by cases e : badHead c.toNat; rfl; exact absurd (Or.inr e) hg)] at h
        simp [nameR] at h
  | succ r ih =>
    intro a b hb h
    cases a with
    | nil =>
      rcases hb with rfl | ⟨c, r, rfl, hm⟩
      · rfl
      · exact nl_bad _ _ _ (Or.inr (mark_bad hm))
    | cons c l =>
      by_cases hg : sizeL (c :: l) = 0 ∨ badHead c.toNat = true
      · rw [nameR_bad _ c l hg] at h; cases h
      · have h0 : sizeL (c :: l) ≠ 0 := fun e => hg (Or.inl e)
        have hbd : badHead c.toNat = false := by
          cases e : badHead c.toNat
          · rfl
          · exact absurd (Or.inr e) hg
        rw [nameR_good _ c l h0 hbd] at h
        have hs := size_append c l b h0
        have hle := sizeL_le (c :: l)
        rw [List.cons_append, nl_succ _ _ _ (by rw [hs]; exact hg), hs]
        rw [← List.cons_append, List.drop_append_of_le_length hle, ih _ b hb h]
        rw [Option.map_some, List.length_drop]
        exact congrArg some (Nat.sub_add_cancel hle)

theorem name_of_nl : ∀ (r : Nat) (l : List UInt8) (n : Nat), r ≤ 8 → nl r l = some n → (n = 0 → r < 8) → nameR (r + 1) (l.take n) = true ∧ n ≤ l.length := by
  intro r
  induction r with
  | zero =>
    intro l n hr8 h h0
    cases l with
    | nil =>
      have : n = 0 := by rw [nl_nil] at h; injection h with h; exact h.symm
      subst this
      exact ⟨rfl, Nat.le_refl _⟩
    | cons c l =>
      by_cases hg : sizeL (c :: l) = 0 ∨ badHead c.toNat = true
      · rw [nl_bad _ _ _ hg] at h
        injection h with h; subst h
        exact ⟨rfl, Nat.zero_le _⟩
      · rw [nl_zero _ _ hg] at h; cases h
  | succ r ih =>
    intro l n hr8 h h0
    cases l with
    | nil =>
      have : n = 0 := by rw [nl_nil] at h; injection h with h; exact h.symm
      subst this
      exact ⟨by simp [nameR]; exact h0 rfl, Nat.le_refl _⟩
    | cons c l =>
      by_cases hg : sizeL (c :: l) = 0 ∨ badHead c.toNat = true
      · rw [nl_bad _ _ _ hg] at h
        injection h with h; subst h
        exact ⟨by simp [nameR]; exact h0 rfl, Nat.zero_le _⟩
      · have hz : sizeL (c :: l) ≠ 0 := fun e => hg (Or.inl e)
        have hbd : badHead c.toNat = false := by
          cases e : badHead c.toNat
          · rfl
          · exact absurd (Or.inr e) hg
        rw [nl_succ _ _ _ hg, Option.map_eq_some_iff] at h
        obtain ⟨m, hm, rfl⟩ := h
        have hle := sizeL_le (c :: l)
        obtain ⟨k, hk⟩ : ∃ k, sizeL (c :: l) = k + 1 := ⟨sizeL (c :: l) - 1, by omega⟩
        rw [hk] at hm hle ⊢
        have hi := ih _ m (by omega) hm (fun e => by omega)
        rw [List.length_drop] at hi
        refine ⟨?_, by have := hi.2; omega⟩
        have ht : sizeL (c :: l.take (m + k)) = k + 1 := by rw [size_take c l (m + k) hz (by omega), hk]
        rw [show m + (k + 1) = (m + k) + 1 by omega, List.take_succ_cons, nameR_good _ _ _ (by rw [ht]; omega) hbd, ht]
        have e : (c :: l.take (m + k)).drop (k + 1) = ((c :: l).drop (k + 1)).take m := by
          rw [List.drop_succ_cons, List.drop_succ_cons, List.drop_take, Nat.add_sub_cancel]
        rw [e]; exact hi.1

end Go.Proofs.YtalmoiogbdahcaaGreat
