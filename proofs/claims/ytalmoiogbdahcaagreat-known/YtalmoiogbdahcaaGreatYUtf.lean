import Derived.Test.YtalmoiogbdahcaaGreatYRefA
import Derived.Laws.RangeAny
namespace Go.Proofs.YtalmoiogbdahcaaGreat
set_option maxRecDepth 100000
set_option maxHeartbeats 8000000
open Go.RowKit
theorem getbang (s : ByteArray) (i : Nat) (h : i < s.size) : s.get! i = s[i]'h := by
 simp [ByteArray.get!, getElem!_pos, h]
 rfl
theorem drop_cons (s : ByteArray) (i : Nat) (h : i < s.size) : s.data.toList.drop i = s[i]'h :: s.data.toList.drop (i + 1) := by
 rw [List.drop_eq_getElem_cons (by simpa using h)]; rfl
theorem cont_iff (x : Nat) (h : x < 256) : (x / 64 == 2) = (decide (128 <= (x : Int)) && decide ((x : Int) <= 191)) := by
 rw [Bool.eq_iff_iff]; simp; omega
theorem tail_short (n : Nat) (a l : Int) (r : List UInt8) (h : r.length < n) : tailL n a l r = 0 := by unfold tailL; rw [if_pos h]
theorem tail1 (a l : Int) (x : UInt8) (r : List UInt8) : tailL 1 a l (x :: r) = if (128 <= (x.toNat : Int) /\ (x.toNat : Int) <= 191) /\ codeBad l (64 * a + x.toNat - 128) = false then 2 else 0 := by
 unfold tailL
 rw [if_neg (by simp)]
 by_cases h1 : (128 <= (x.toNat : Int) /\ (x.toNat : Int) <= 191)
 ·rw [if_neg (by simp [follow]; omega)]
  rw [show foldC a (List.take 1 (x :: r)) = 64 * a + x.toNat - 128 from rfl]
  by_cases hc : codeBad l (64 * a + x.toNat - 128) = true
  ·rw [if_pos hc, if_neg (by simp [hc])]
  ·rw [if_neg hc, if_pos ⟨h1, by simpa using hc⟩]
 ·rw [if_pos (by simp [follow]; omega), if_neg (fun h => h1 h.1)]
theorem tail2 (a l : Int) (x y : UInt8) (r : List UInt8) : tailL 2 a l (x :: y :: r) = if ((128 <= (x.toNat : Int) /\ (x.toNat : Int) <= 191) /\ (128 <= (y.toNat : Int) /\ (y.toNat : Int) <= 191)) /\ codeBad l (64 * (64 * a + x.toNat - 128) + y.toNat - 128) = false then 3 else 0 := by
 unfold tailL
 rw [if_neg (by simp)]
 by_cases h1 : ((128 <= (x.toNat : Int) /\ (x.toNat : Int) <= 191) /\ (128 <= (y.toNat : Int) /\ (y.toNat : Int) <= 191))
 ·rw [if_neg (by simp [follow]; omega)]
  rw [show foldC a (List.take 2 (x :: y :: r)) = 64 * (64 * a + x.toNat - 128) + y.toNat - 128 from rfl]
  by_cases hc : codeBad l (64 * (64 * a + x.toNat - 128) + y.toNat - 128) = true
  ·rw [if_pos hc, if_neg (by simp [hc])]
  ·rw [if_neg hc, if_pos ⟨h1, by simpa using hc⟩]
 ·rw [if_pos (by simp [follow]; omega), if_neg (fun h => h1 h.1)]
theorem tail3 (a l : Int) (x y z : UInt8) (r : List UInt8) : tailL 3 a l (x :: y :: z :: r) = if ((128 <= (x.toNat : Int) /\ (x.toNat : Int) <= 191) /\ (128 <= (y.toNat : Int) /\ (y.toNat : Int) <= 191) /\ (128 <= (z.toNat : Int) /\ (z.toNat : Int) <= 191)) /\ codeBad l (64 * (64 * (64 * a + x.toNat - 128) + y.toNat - 128) + z.toNat - 128) = false then 4 else 0 := by
 unfold tailL
 rw [if_neg (by simp)]
 by_cases h1 : ((128 <= (x.toNat : Int) /\ (x.toNat : Int) <= 191) /\ (128 <= (y.toNat : Int) /\ (y.toNat : Int) <= 191) /\ (128 <= (z.toNat : Int) /\ (z.toNat : Int) <= 191))
 ·rw [if_neg (by simp [follow]; omega)]
  rw [show foldC a (List.take 3 (x :: y :: z :: r)) = 64 * (64 * (64 * a + x.toNat - 128) + y.toNat - 128) + z.toNat - 128 from rfl]
  by_cases hc : codeBad l (64 * (64 * (64 * a + x.toNat - 128) + y.toNat - 128) + z.toNat - 128) = true
  ·rw [if_pos hc, if_neg (by simp [hc])]
  ·rw [if_neg hc, if_pos ⟨h1, by simpa using hc⟩]
 ·rw [if_pos (by simp [follow]; omega), if_neg (fun h => h1 h.1)]
theorem decode_spec (s : ByteArray) (p : Nat) (h : p < s.size) :
  (sizeL (s.data.toList.drop p) = 0 /\ Utf8.decode s p = (65533, 1) /\ 128 <= (s[p]'h).toNat) \/
  (sizeL (s.data.toList.drop p) = (Utf8.decode s p).2 /\ 1 <= (Utf8.decode s p).2 /\ Utf8.valid (Utf8.decode s p).1 = true /\
    (((s[p]'h).toNat < 128 /\ (Utf8.decode s p).1 = (s[p]'h).toNat) \/ (128 <= (s[p]'h).toNat /\ 128 <= (Utf8.decode s p).1))) := by
 have hb0 := (s[p]'h).toNat_lt
 have e0 : s.get! (p + 0) = s[p]'h := getbang s p h
 generalize hx : s[p]'h = x0 at *
 rw [drop_cons s p h, hx, sizeL_cons]
 unfold Utf8.decode
 simp only [e0]
 generalize x0.toNat = b0 at *
 by_cases h1 : b0 < 128
 ·right
  simp only [h1, if_true]
  rw [if_pos (by omega)]
  simp [Utf8.valid]; omega
 rw [if_neg (by omega), if_neg h1]
 have hlen : (s.data.toList.drop (p + 1)).length = s.size - (p + 1) := by simp
 by_cases hA : b0 / 32 = 6
 ·have hA' : (b0 / 32 == 6) = true := by simpa using hA
  have hB' : (b0 / 16 == 14) = false := by rw [beq_eq_false_iff_ne]; omega
  have hC' : (b0 / 8 == 30) = false := by rw [beq_eq_false_iff_ne]; omega
  simp only [hA', hB', hC', Bool.true_and, Bool.false_and, Bool.false_eq_true, if_false]
  by_cases h1s : p + 1 < s.size
  ·have e1 : s.get! (p + 1) = s[p + 1]'h1s := getbang s _ h1s
   rw [drop_cons s (p + 1) h1s]
   have hb1 := (s[p + 1]'h1s).toNat_lt
   simp only [e1, h1s, decide_true, Bool.true_and]
   rw [cont_iff _ hb1, tail1]
   generalize (s[p + 1]'h1s).toNat = b1 at *
   by_cases hg : (194 : Int) <= b0 /\ ((128 : Int) <= b1 /\ (b1 : Int) <= 191)
   ·right
    have q1 : (128 : Int) <= b1 := hg.2.1
    have q2 : (b1 : Int) <= 191 := hg.2.2
    rw [if_pos (by omega : (194 : Int) <= b0 /\ (b0 : Int) < 224), if_pos (⟨hg.2, by simp [codeBad]; omega⟩ : ((128 : Int) <= b1 /\ (b1 : Int) <= 191) /\ codeBad 0 (64 * ((b0 : Int) - 192) + b1 - 128) = false), if_pos (by simp; omega : (decide (128 <= (b1 : Int)) && decide ((b1 : Int) <= 191)) = true), if_pos (by omega : b0 % 32 * 64 + b1 % 64 ≥ 128)]
    simp [Utf8.valid]; omega
   ·left
    refine ⟨?_, ?_, by omega⟩
    ·split
     ·rw [if_neg (by omega)]
     ·rw [if_neg (by omega), if_neg (by omega)]
    ·split
     ·rw [if_neg (by simp at *; omega)]; rfl
     ·rfl
  ·left
   simp only [h1s, decide_false, Bool.false_and, Bool.false_eq_true, if_false]
   refine ⟨?_, rfl, by omega⟩
   rw [tail_short 1 _ _ _ (by omega)]
   split
   ·rfl
   ·rw [if_neg (by omega), if_neg (by omega)]
 ·have hA' : (b0 / 32 == 6) = false := by simpa using hA
  rw [if_neg (by omega : ¬ ((194 : Int) <= b0 /\ (b0 : Int) < 224))]
  by_cases hB : b0 / 16 = 14
  ·have hB' : (b0 / 16 == 14) = true := by simpa using hB
   have hC' : (b0 / 8 == 30) = false := by rw [beq_eq_false_iff_ne]; omega
   rw [if_pos (by omega : ((224 : Int) <= b0 /\ (b0 : Int) < 240))]
   simp only [hA', hB', hC', Bool.true_and, Bool.false_and, Bool.false_eq_true, if_false]
   by_cases h2s : p + 2 < s.size
   ·have h1s : p + 1 < s.size := by omega
    have e1 : s.get! (p + 1) = s[p + 1]'h1s := getbang s _ h1s
    have e2 : s.get! (p + 2) = s[p + 2]'h2s := getbang s _ h2s
    rw [drop_cons s (p + 1) h1s, drop_cons s (p + 1 + 1) h2s]
    have hb1 := (s[p + 1]'h1s).toNat_lt
    have hb2 := (s[p + 2]'h2s).toNat_lt
    simp only [e1, e2, h1s, h2s, decide_true, Bool.true_and]
    rw [cont_iff _ hb1, cont_iff _ hb2, tail2]
    generalize (s[p + 1]'h1s).toNat = b1 at *
    generalize (s[p + 2]'h2s).toNat = b2 at *
    by_cases hg : ((128 : Int) <= b1 /\ (b1 : Int) <= 191) /\ ((128 : Int) <= b2 /\ (b2 : Int) <= 191)
    ·obtain ⟨⟨q1, q2⟩, ⟨q3, q4⟩⟩ := hg
     have hcd : (64 * (64 * ((b0 : Int) - 224) + b1 - 128) + b2 - 128) = ((b0 % 16 * 4096 + b1 % 64 * 64 + b2 % 64 : Nat) : Int) := by omega
     rw [hcd, if_pos (by simp; omega : (decide (128 <= (b1 : Int)) && decide ((b1 : Int) <= 191) && (decide (128 <= (b2 : Int)) && decide ((b2 : Int) <= 191))) = true)]
     have hcb : b0 % 16 * 4096 + b1 % 64 * 64 + b2 % 64 <= 65535 := by omega
     generalize b0 % 16 * 4096 + b1 % 64 * 64 + b2 % 64 = c at *
     by_cases hbad : codeBad 2048 (c : Int) = false
     ·right
      have hv : 2048 <= c /\ (c < 55296 \/ 57344 <= c) := by simp [codeBad] at hbad; omega
      have hvv : Utf8.valid (c : Int) = true := by simp [Utf8.valid]; omega
      rw [if_pos (⟨⟨⟨q1, q2⟩, ⟨q3, q4⟩⟩, hbad⟩ : ((128 <= (b1 : Int) /\ (b1 : Int) <= 191) /\ (128 <= (b2 : Int) /\ (b2 : Int) <= 191)) /\ codeBad 2048 (c : Int) = false), if_pos (by simp [hvv]; omega : (decide (c ≥ 2048) && Utf8.valid (c : Int)) = true)]
      simp [hvv]; omega
     ·left
      have hv : c < 2048 \/ (55296 <= c /\ c < 57344) := by simp [codeBad] at hbad; omega
      have hvv : (decide (c ≥ 2048) && Utf8.valid (c : Int)) = false := by simp [Utf8.valid]; omega
      rw [if_neg (fun h => hbad h.2 : ¬ (((128 <= (b1 : Int) /\ (b1 : Int) <= 191) /\ (128 <= (b2 : Int) /\ (b2 : Int) <= 191)) /\ codeBad 2048 (c : Int) = false)), if_neg (by rw [hvv]; simp : ¬ (decide (c ≥ 2048) && Utf8.valid (c : Int)) = true)]
      exact ⟨rfl, rfl, by omega⟩
    ·left
     refine ⟨if_neg (fun h => hg h.1), ?_, by omega⟩
     rw [if_neg (by simp; omega)]; rfl
   ·left
    refine ⟨tail_short 2 _ _ _ (by omega), ?_, by omega⟩
    simp only [h2s, decide_false, Bool.false_and, Bool.and_false, Bool.false_eq_true, if_false]
    rfl
  ·have hB' : (b0 / 16 == 14) = false := by simpa using hB
   rw [if_neg (by omega : ¬ ((224 : Int) <= b0 /\ (b0 : Int) < 240))]
   by_cases hC : b0 / 8 = 30
   ·have hC' : (b0 / 8 == 30) = true := by simpa using hC
    simp only [hA', hB', hC', Bool.true_and, Bool.false_and, Bool.false_eq_true, if_false]
    by_cases h3s : p + 3 < s.size
    ·have h1s : p + 1 < s.size := by omega
     have h2s : p + 2 < s.size := by omega
     have e1 : s.get! (p + 1) = s[p + 1]'h1s := getbang s _ h1s
     have e2 : s.get! (p + 2) = s[p + 2]'h2s := getbang s _ h2s
     have e3 : s.get! (p + 3) = s[p + 3]'h3s := getbang s _ h3s
     rw [drop_cons s (p + 1) h1s, drop_cons s (p + 1 + 1) h2s, drop_cons s (p + 1 + 1 + 1) h3s]
     have hb1 := (s[p + 1]'h1s).toNat_lt
     have hb2 := (s[p + 2]'h2s).toNat_lt
     have hb3 := (s[p + 3]'h3s).toNat_lt
     simp only [e1, e2, e3, h1s, h2s, h3s, decide_true, Bool.true_and]
     rw [cont_iff _ hb1, cont_iff _ hb2, cont_iff _ hb3, tail3]
     generalize (s[p + 1]'h1s).toNat = b1 at *
     generalize (s[p + 2]'h2s).toNat = b2 at *
     generalize (s[p + 3]'h3s).toNat = b3 at *
     by_cases hg : ((128 : Int) <= b1 /\ (b1 : Int) <= 191) /\ ((128 : Int) <= b2 /\ (b2 : Int) <= 191) /\ ((128 : Int) <= b3 /\ (b3 : Int) <= 191)
     ·obtain ⟨⟨q1, q2⟩, ⟨q3, q4⟩, ⟨q5, q6⟩⟩ := hg
      have hcd : (64 * (64 * (64 * ((b0 : Int) - 240) + b1 - 128) + b2 - 128) + b3 - 128) = ((b0 % 8 * 262144 + b1 % 64 * 4096 + b2 % 64 * 64 + b3 % 64 : Nat) : Int) := by omega
      rw [hcd]
      rw [if_pos (by simp; omega : ((decide (128 <= (b1 : Int)) && decide ((b1 : Int) <= 191) && (decide (128 <= (b2 : Int)) && decide ((b2 : Int) <= 191)) && (decide (128 <= (b3 : Int)) && decide ((b3 : Int) <= 191))) = true))]
      have hc5 : b0 < 245 \/ 1310720 <= b0 % 8 * 262144 + b1 % 64 * 4096 + b2 % 64 * 64 + b3 % 64 := by omega
      generalize b0 % 8 * 262144 + b1 % 64 * 4096 + b2 % 64 * 64 + b3 % 64 = c at *
      by_cases hbad : b0 < 245 /\ codeBad 65536 (c : Int) = false
      ·right
       have hv : 65536 <= c /\ c <= 1114111 := by have := hbad.2; simp [codeBad] at this; omega
       have hvv : Utf8.valid (c : Int) = true := by simp [Utf8.valid]; omega
       rw [if_pos (by omega : ((240 : Int) <= b0 /\ (b0 : Int) < 245)), if_pos (⟨⟨⟨q1, q2⟩, ⟨q3, q4⟩, ⟨q5, q6⟩⟩, hbad.2⟩ : ((128 <= (b1 : Int) /\ (b1 : Int) <= 191) /\ (128 <= (b2 : Int) /\ (b2 : Int) <= 191) /\ (128 <= (b3 : Int) /\ (b3 : Int) <= 191)) /\ codeBad 65536 (c : Int) = false), if_pos (by simp [hvv]; omega : (decide (c ≥ 65536) && Utf8.valid (c : Int)) = true)]
       simp [hvv]; omega
      ·left
       have hv : c < 65536 \/ 1114111 < c := by
        by_cases h245 : b0 < 245
        ·have : ¬ codeBad 65536 (c : Int) = false := fun h => hbad ⟨h245, h⟩
         simp [codeBad] at this; omega
        ·omega
       have hvv : (decide (c ≥ 65536) && Utf8.valid (c : Int)) = false := by simp [Utf8.valid]; omega
       refine ⟨?_, ?_, by omega⟩
       ·split
        ·rw [if_neg (fun h => hbad ⟨by omega, h.2⟩)]
        ·rfl
       ·rw [if_neg (by rw [hvv]; simp)]; rfl
     ·left
      refine ⟨?_, ?_, by omega⟩
      ·split
       ·rw [if_neg (fun h => hg h.1)]
       ·rfl
      ·rw [if_neg (by simp; omega)]; rfl
    ·left
     refine ⟨?_, ?_, by omega⟩
     ·split
      ·exact tail_short 3 _ _ _ (by omega)
      ·rfl
     ·simp only [h3s, decide_false, Bool.false_and, Bool.and_false, Bool.false_eq_true, if_false]
      rfl
   ·have hC' : (b0 / 8 == 30) = false := by simpa using hC
    left
    rw [if_neg (by omega : ¬ ((240 : Int) <= b0 /\ (b0 : Int) < 245))]
    simp only [hA', hB', hC', Bool.false_and, Bool.false_eq_true, if_false]
    exact ⟨trivial, rfl, by omega⟩
end Go.Proofs.YtalmoiogbdahcaaGreat
