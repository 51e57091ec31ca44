import Derived.Test.YtalmoiogbdahcaaGreatXUtf
import Derived.Test.YtalmoiogbdahcaaGreatXWrdB

/- Which runes the program's reader takes into a name are those that the document lets. -/
namespace Go.Proofs.YtalmoiogbdahcaaGreat
open Go.RowKit

theorem decode_fffd (s : ByteArray) (p : Nat) (hc : (Utf8.decode s p).1 = 65533) :
    (Utf8.decode s p).2 = 1 ∨ ((Utf8.decode s p).2 = 3 ∧ p + 2 < s.size ∧ (s.get! p).toNat = 239 ∧ (s.get! (p + 1)).toNat = 191 ∧ (s.get! (p + 2)).toNat = 189) := by
  have hb0 := (s.get! p).toNat_lt
  have hb1 := (s.get! (p + 1)).toNat_lt
  have hb2 := (s.get! (p + 2)).toNat_lt
  have hb3 := (s.get! (p + 3)).toNat_lt
  have e0 : s.get! (p + 0) = s.get! p := rfl
  unfold Utf8.decode at hc ⊢
  simp only [e0] at hc ⊢
  generalize (s.get! p).toNat = b0 at *
  generalize (s.get! (p + 1)).toNat = b1 at *
  generalize (s.get! (p + 2)).toNat = b2 at *
  generalize (s.get! (p + 3)).toNat = b3 at *
  by_cases q0 : b0 < 128
  · rw [if_pos q0] at hc; dsimp only at hc; omega
  rw [if_neg q0] at hc ⊢
  by_cases q1 : (b0 / 32 == 6 && (decide (p + 1 < s.size) && b1 / 64 == 2)) = true
  · rw [if_pos q1] at hc ⊢
    split at hc
    · dsimp only at hc; omega
    · left; rw [if_neg (by assumption)]
  rw [if_neg q1] at hc ⊢
  by_cases q2 : (b0 / 16 == 14 && (decide (p + 1 < s.size) && b1 / 64 == 2) && (decide (p + 2 < s.size) && b2 / 64 == 2)) = true
  · rw [if_pos q2] at hc ⊢
    split at hc
    · right
      rw [if_pos (by assumption)]
      dsimp only at hc
      simp at q2
      refine ⟨rfl, q2.2.1, ?_, ?_, ?_⟩ <;> omega
    · left; rw [if_neg (by assumption)]
  rw [if_neg q2] at hc ⊢
  by_cases q3 : (b0 / 8 == 30 && (decide (p + 1 < s.size) && b1 / 64 == 2) && (decide (p + 2 < s.size) && b2 / 64 == 2) && (decide (p + 3 < s.size) && b3 / 64 == 2)) = true
  · rw [if_pos q3] at hc ⊢
    split at hc
    · rename_i hq
      dsimp only at hc
      simp at hq
      omega
    · left; rw [if_neg (by assumption)]
  rw [if_neg q3]; left; rfl

theorem size_high (c : UInt8) (r : List UInt8) (h : 128 ≤ c.toNat) : sizeL (c :: r) = 0 ∨ 2 ≤ sizeL (c :: r) := by
  have ht : ∀ n a l, 1 ≤ n → tailL n a l r = 0 ∨ 2 ≤ tailL n a l r := by
    intro n a l hn
    unfold tailL
    split
    · left; rfl
    · split
      · left; rfl
      · split
        · left; rfl
        · right; omega
  rw [sizeL_cons, if_neg (by omega)]
  split
  · exact ht _ _ _ (by omega)
  · split
    · exact ht _ _ _ (by omega)
    · split
      · exact ht _ _ _ (by omega)
      · left; rfl

theorem u8_eq (x y : UInt8) : (x = y) ↔ (x.toNat = y.toNat) := UInt8.toNat_inj.symm
theorem pre_err (s : ByteArray) (p : Nat) : preB (s.extract p s.size) errS = decide (p + 2 < s.size ∧ (s.get! p).toNat = 239 ∧ (s.get! (p + 1)).toNat = 191 ∧ (s.get! (p + 2)).toNat = 189) := by
  unfold preB
  have hsz : errS.size = 3 := rfl
  rw [hsz, ByteArray.size_extract, Lib.toList_data, Lib.toList_data, extract_front, extract_list]
  by_cases h2 : p + 2 < s.size
  · have h0 : p < s.size := by omega
    have h1 : p + 1 < s.size := by omega
    rw [drop_cons s p h0, drop_cons s (p + 1) h1, drop_cons s (p + 1 + 1) h2, getbang s p h0, getbang s (p + 1) h1, getbang s (p + 2) h2]
    rw [decide_eq_true (by omega : 3 ≤ min s.size s.size - p), Bool.true_and]
    rw [Bool.eq_iff_iff, beq_iff_eq, decide_eq_true_eq]
    simp only [List.take_succ_cons, List.take_zero]
    show ([s[p], s[p + 1], s[p + 1 + 1]] = [239, 191, 189]) ↔ _
    simp only [List.cons.injEq, and_true, u8_eq, h2, true_and]
    rfl
  · rw [decide_eq_false (by omega : ¬ 3 ≤ min s.size s.size - p), Bool.false_and]
    symm
    rw [decide_eq_false_iff_not]; omega

/-- a rune that may stand in a name. -/
def goodAt (s : ByteArray) (p : Nat) : Bool := decide (sizeL (s.data.toList.drop p) ≠ 0) && !badHead (s.data.toList.getD p 0).toNat
theorem good_iff (s : ByteArray) (p : Nat) (h : p < s.size) : (inNameB (Utf8.decode s p).1 && !brokenB (Utf8.decode s p).1 (s.extract p s.size)) = goodAt s p := by
  have hby : (s.data.toList.getD p 0).toNat = (s[p]'h).toNat := by
    rw [List.getD_eq_getElem?_getD, List.getElem?_eq_getElem (by simpa using h)]; rfl
  unfold goodAt
  rw [hby]
  have hs0 := drop_cons s p h
  rcases decode_spec s p h with ⟨h1, h2, h3⟩ | ⟨h1, h2, hv, ⟨h4, h5⟩ | ⟨h4, h5⟩⟩
  · rw [h1, h2]
    have hnp : preB (s.extract p s.size) errS = false := by
      rw [pre_err, decide_eq_false_iff_not]
      rintro ⟨q1, q2, q3, q4⟩
      rw [getbang s p h] at q2
      rw [getbang s (p + 1) (by omega)] at q3
      rw [getbang s (p + 2) q1] at q4
      rw [drop_cons s p h, drop_cons s (p + 1) (by omega), drop_cons s (p + 1 + 1) q1, sizeL_cons, if_neg (by omega), if_neg (by omega), if_pos (by omega), tail2, if_pos ?_] at h1
      · omega
      · rw [q2, q3]
        have q4' : (s[p + 1 + 1]'q1).toNat = 189 := q4
        rw [q4']
        decide
    unfold brokenB
    rw [hnp]
    simp
  · have hb : brokenB ((Utf8.decode s p).1 : Int) (s.extract p s.size) = false := by
      unfold brokenB; rw [decide_eq_false (by omega), Bool.false_and]
    rw [hb, h1, h5]
    rw [decide_eq_true (by omega)]
    unfold inNameB badHead
    generalize ((s[p]'h).toNat : Int) = x
    cases markB x <;> simp
    · by_cases h33 : x < 33
      · simp [h33]; omega
      · have h34 : decide (33 ≤ x) = true := decide_eq_true (by omega)
        rw [h34, decide_eq_false h33]
        by_cases h127 : x = 127
        · subst h127; rfl
        · rw [decide_eq_false h127, beq_eq_false_iff_ne.2 h127]; rfl
  · have hn : inNameB ((Utf8.decode s p).1 : Int) = true := by
      unfold inNameB
      rw [mark_high _ (by omega)]
      simp; omega
    have hbd : badHead ((s[p]'h).toNat : Int) = false := by
      unfold badHead
      rw [mark_high _ (by omega)]
      simp; omega
    have h2' : 2 ≤ (Utf8.decode s p).2 := by
      rw [hs0] at h1
      rcases size_high (s[p]'h) (s.data.toList.drop (p + 1)) h4 with q | q
      · omega
      · omega
    have hb : brokenB ((Utf8.decode s p).1 : Int) (s.extract p s.size) = false := by
      unfold brokenB
      by_cases hc : (Utf8.decode s p).1 = 65533
      · rcases decode_fffd s p hc with q | ⟨-, q⟩
        · omega
        · rw [pre_err, decide_eq_true q]; simp
      · rw [decide_eq_false (by omega), Bool.false_and]
    rw [hn, hb, hbd, decide_eq_true (by omega)]

end Go.Proofs.YtalmoiogbdahcaaGreat
