import Derived.Test.YtalmoiogbdahcaaGreatYUtf
import Derived.Test.YtalmoiogbdahcaaGreatYWrdA
import Derived.Laws.RangeAny
namespace Go.Proofs.YtalmoiogbdahcaaGreat
set_option maxRecDepth 100000
set_option maxHeartbeats 8000000
open Go.RowKit
def marksS : ByteArray := { data := #[58, 35, 64, 61, 124, 38, 40, 41, 62, 43, 45] }
theorem mark_ascii : ∀ c : Fin 128, decide (0 <= Lib.indexByte markL (UInt8.ofNat c.val)) = markB (c.val : Int) := by
 set_option maxRecDepth 100000 in decide
theorem mark_high (c : Int) (h : 128 <= c) : markB c = false := by
 unfold markB hasB markL
 simp only [List.any_cons, List.any_nil, Bool.or_false]
 simp
 omega
theorem index_high : ∀ (c : UInt8), 128 <= c.toNat -> ∀ (l : List UInt8), (∀ x ∈ l, x.toNat < 128) -> Lib.indexByte l c = -1 := by
 intro c hc l
 induction l with
 | nil => intro _; rfl
 | cons x l ih =>
  intro h
  have h1 := h x (by simp)
  have h2 := ih (fun y hy => h y (by simp [hy]))
  unfold Lib.indexByte
  have : (x == c) = false := by
   rw [beq_eq_false_iff_ne]; intro e; subst e; omega
  rw [this, h2]; rfl
theorem runeAscii_any (c : Int) (w : World) (h0 : 0 <= c) (h1 : c < 128) :
  Calls Tryz.prog 230 #[.string marksS, .int .i32 c] w fun e w' => e = .returned (.int .i64 (Lib.indexByte markL (UInt8.ofNat c.toNat))) /\ w' = w := by
 have hi := fun w => indexByte_any marksS c w
 go_enter Tryz.func230, Tryz.ntmps230
 go_wp2_with (go_at_call 232; refine (hi _).mono ?_; rintro e w' ⟨rfl, rfl⟩)
 go_ret
 exact ⟨rfl, rfl⟩
theorem marks_all : ∀ x ∈ markL, x.toNat < 128 := by decide
theorem marks_low (p : Nat) (h : p < marksS.size) : (marksS[p]'h).toNat < 128 := marks_all (markL[p]'h) (List.getElem_mem h)
theorem runeErr_any (w : World) :
  Calls Tryz.prog 230 #[.string marksS, .int .i32 65533] w fun e w' => e = .returned (.int .i64 (-1)) /\ Below w.heap.size w w' := by
 go_enter Tryz.func230, Tryz.ntmps230
 go_wp2
 go_loopw [5, 6] (fun _ _ wr => ∃ p : Nat, p <= marksS.size /\ wr = w.iter marksS p) (fun _ _ wr => marksS.size - wr.iterPos w.heap.size)
 case atStart => exact ⟨0, Nat.zero_le _, rfl⟩
 case round =>
  obtain ⟨p, hp, rfl⟩ := hrel
  by_cases hlt : p < marksS.size
  ·have ha := marks_low p hlt
   have hn := run_next_ascii (P := Tryz.prog) w marksS p 0 hlt ha
   obtain ⟨y, hy⟩ : ∃ y : Int, ((marksS[p]'hlt).toNat : Int) = y := ⟨_, rfl⟩
   have hyb : (y == 65533) = false := by rw [beq_eq_false_iff_ne]; omega
   rw [hy] at hn
   clear hy ha
   go_wp2
   go_roundw
   case rel => exact ⟨p + 1, by omega, rfl⟩
   case measure => simp; omega
  ·have hn := run_next_end (P := Tryz.prog) w marksS p 0 hlt
   go_wp2
   go_ret
   exact ⟨rfl, (Below.refl _ _).alloc (Nat.le_refl _) _⟩
theorem runeHigh2 (c : Int) (w : World) (h0 : 128 <= c) (h1 : c <= 1114111) (h2 : (c < 55296) \/ (57343 < c)) (h3 : (c == 65533) = false) (e0 e1 : UInt8) (he : Utf8.encode c = { data := #[e0, e1] }) (hz : 128 <= e1.toNat) :
  Calls Tryz.prog 230 #[.string marksS, .int .i32 c] w fun e w' => e = .returned (.int .i64 (-1)) /\ Below w.heap.size w w' := by
 have hi : ∀ (z : Int) w, z = e1.toNat -> Calls Tryz.prog 232 #[.string (marksS.extract 2 11), .int .u8 z] w fun e w' => e = .returned (.int .i64 (-1)) /\ w' = w := by
  intro z w hzz
  subst hzz
  have h := indexByte_any (marksS.extract 2 11) e1.toNat w
  rw [index_high _ (by simpa using hz) _ (by decide)] at h
  exact h
 have hne : (((marksS[1]'(by decide)).toNat : Int) != (e1.toNat : Int)) = true := by
  have := marks_low 1 (by decide)
  rw [bne_iff_ne]; omega
 have hms : marksS.size = 11 := rfl
 have hwr : IntKind.i64.wrap 2 = 2 := by decide
 have hget : ∀ h, ({ data := #[e0, e1] } : ByteArray)[1]'h = e1 := fun _ => rfl
 rcases h2 with h2 | h2
 ·go_enter Tryz.func230, Tryz.ntmps230
  go_wp2
  go_step3
  go_wp2
  refine wp_loop_rounds 1 ?_
  rw [rounds_succ]
  go_wp2
  go_step3
  go_wp2
  go_quiet (fail)
  go_wp2
  go_quiet ((go_at_call 232; refine (hi _ _ rfl).mono ?_; rintro e w'' ⟨rfl, rfl⟩; exact ⟨rfl, ⟨_, rfl⟩⟩))
  go_wp2
  repeat (first | rw [Exit.noGoto_ret] | simp only [Exit.inBlock, Exit.then])
  go_ret
  exact ⟨rfl, below_drewN (Below.refl _ _) _⟩
 ·go_enter Tryz.func230, Tryz.ntmps230
  go_wp2
  go_step3
  go_wp2
  refine wp_loop_rounds 1 ?_
  rw [rounds_succ]
  go_wp2
  go_step3
  go_wp2
  go_quiet (fail)
  go_wp2
  go_quiet ((go_at_call 232; refine (hi _ _ rfl).mono ?_; rintro e w'' ⟨rfl, rfl⟩; exact ⟨rfl, ⟨_, rfl⟩⟩))
  go_wp2
  repeat (first | rw [Exit.noGoto_ret] | simp only [Exit.inBlock, Exit.then])
  go_ret
  exact ⟨rfl, below_drewN (Below.refl _ _) _⟩
theorem runeHigh3 (c : Int) (w : World) (h0 : 128 <= c) (h1 : c <= 1114111) (h2 : (c < 55296) \/ (57343 < c)) (h3 : (c == 65533) = false) (e0 e1 e2 : UInt8) (he : Utf8.encode c = { data := #[e0, e1, e2] }) (hz : 128 <= e2.toNat) :
  Calls Tryz.prog 230 #[.string marksS, .int .i32 c] w fun e w' => e = .returned (.int .i64 (-1)) /\ Below w.heap.size w w' := by
 have hi : ∀ (z : Int) w, z = e2.toNat -> Calls Tryz.prog 232 #[.string (marksS.extract 3 11), .int .u8 z] w fun e w' => e = .returned (.int .i64 (-1)) /\ w' = w := by
  intro z w hzz
  subst hzz
  have h := indexByte_any (marksS.extract 3 11) e2.toNat w
  rw [index_high _ (by simpa using hz) _ (by decide)] at h
  exact h
 have hne : (((marksS[2]'(by decide)).toNat : Int) != (e2.toNat : Int)) = true := by
  have := marks_low 2 (by decide)
  rw [bne_iff_ne]; omega
 have hms : marksS.size = 11 := rfl
 have hwr : IntKind.i64.wrap 3 = 3 := by decide
 have hget : ∀ h, ({ data := #[e0, e1, e2] } : ByteArray)[2]'h = e2 := fun _ => rfl
 rcases h2 with h2 | h2
 ·go_enter Tryz.func230, Tryz.ntmps230
  go_wp2
  go_step3
  go_wp2
  refine wp_loop_rounds 1 ?_
  rw [rounds_succ]
  go_wp2
  go_step3
  go_wp2
  go_quiet (fail)
  go_wp2
  go_quiet ((go_at_call 232; refine (hi _ _ rfl).mono ?_; rintro e w'' ⟨rfl, rfl⟩; exact ⟨rfl, ⟨_, rfl⟩⟩))
  go_wp2
  repeat (first | rw [Exit.noGoto_ret] | simp only [Exit.inBlock, Exit.then])
  go_ret
  exact ⟨rfl, below_drewN (Below.refl _ _) _⟩
 ·go_enter Tryz.func230, Tryz.ntmps230
  go_wp2
  go_step3
  go_wp2
  refine wp_loop_rounds 1 ?_
  rw [rounds_succ]
  go_wp2
  go_step3
  go_wp2
  go_quiet (fail)
  go_wp2
  go_quiet ((go_at_call 232; refine (hi _ _ rfl).mono ?_; rintro e w'' ⟨rfl, rfl⟩; exact ⟨rfl, ⟨_, rfl⟩⟩))
  go_wp2
  repeat (first | rw [Exit.noGoto_ret] | simp only [Exit.inBlock, Exit.then])
  go_ret
  exact ⟨rfl, below_drewN (Below.refl _ _) _⟩
theorem runeHigh4 (c : Int) (w : World) (h0 : 128 <= c) (h1 : c <= 1114111) (h2 : (c < 55296) \/ (57343 < c)) (h3 : (c == 65533) = false) (e0 e1 e2 e3 : UInt8) (he : Utf8.encode c = { data := #[e0, e1, e2, e3] }) (hz : 128 <= e3.toNat) :
  Calls Tryz.prog 230 #[.string marksS, .int .i32 c] w fun e w' => e = .returned (.int .i64 (-1)) /\ Below w.heap.size w w' := by
 have hi : ∀ (z : Int) w, z = e3.toNat -> Calls Tryz.prog 232 #[.string (marksS.extract 4 11), .int .u8 z] w fun e w' => e = .returned (.int .i64 (-1)) /\ w' = w := by
  intro z w hzz
  subst hzz
  have h := indexByte_any (marksS.extract 4 11) e3.toNat w
  rw [index_high _ (by simpa using hz) _ (by decide)] at h
  exact h
 have hne : (((marksS[3]'(by decide)).toNat : Int) != (e3.toNat : Int)) = true := by
  have := marks_low 3 (by decide)
  rw [bne_iff_ne]; omega
 have hms : marksS.size = 11 := rfl
 have hwr : IntKind.i64.wrap 4 = 4 := by decide
 have hget : ∀ h, ({ data := #[e0, e1, e2, e3] } : ByteArray)[3]'h = e3 := fun _ => rfl
 rcases h2 with h2 | h2
 ·go_enter Tryz.func230, Tryz.ntmps230
  go_wp2
  go_step3
  go_wp2
  refine wp_loop_rounds 1 ?_
  rw [rounds_succ]
  go_wp2
  go_step3
  go_wp2
  go_quiet (fail)
  go_wp2
  go_quiet ((go_at_call 232; refine (hi _ _ rfl).mono ?_; rintro e w'' ⟨rfl, rfl⟩; exact ⟨rfl, ⟨_, rfl⟩⟩))
  go_wp2
  repeat (first | rw [Exit.noGoto_ret] | simp only [Exit.inBlock, Exit.then])
  go_ret
  exact ⟨rfl, below_drewN (Below.refl _ _) _⟩
 ·go_enter Tryz.func230, Tryz.ntmps230
  go_wp2
  go_step3
  go_wp2
  refine wp_loop_rounds 1 ?_
  rw [rounds_succ]
  go_wp2
  go_step3
  go_wp2
  go_quiet (fail)
  go_wp2
  go_quiet ((go_at_call 232; refine (hi _ _ rfl).mono ?_; rintro e w'' ⟨rfl, rfl⟩; exact ⟨rfl, ⟨_, rfl⟩⟩))
  go_wp2
  repeat (first | rw [Exit.noGoto_ret] | simp only [Exit.inBlock, Exit.then])
  go_ret
  exact ⟨rfl, below_drewN (Below.refl _ _) _⟩
theorem encode_form (c : Int) (h0 : 128 <= c) (h1 : c <= 1114111) (h2 : (c < 55296) \/ (57343 < c)) :
  (∃ e0 e1, Utf8.encode c = { data := #[e0, e1] } /\ 128 <= e1.toNat) \/ (∃ e0 e1 e2, Utf8.encode c = { data := #[e0, e1, e2] } /\ 128 <= e2.toNat) \/ (∃ e0 e1 e2 e3, Utf8.encode c = { data := #[e0, e1, e2, e3] } /\ 128 <= e3.toNat) := by
 have hv : Utf8.valid c = true := by simp [Utf8.valid]; omega
 have hb : ∀ n : Nat, n < 64 -> 128 <= (UInt8.ofNat (128 + n)).toNat := by
  intro n hn
  rw [UInt8.toNat_ofNat']; omega
 unfold Utf8.encode
 simp only [hv, if_true]
 split
 ·omega
 ·split
  ·exact Or.inl ⟨_, _, rfl, hb _ (Nat.mod_lt _ (by decide))⟩
  ·split
   ·exact Or.inr (Or.inl ⟨_, _, _, rfl, hb _ (Nat.mod_lt _ (by decide))⟩)
   ·exact Or.inr (Or.inr ⟨_, _, _, _, rfl, hb _ (Nat.mod_lt _ (by decide))⟩)
theorem rune_any (c : Int) (w : World) (h0 : 0 <= c) (h1 : c <= 1114111) (h2 : (c < 55296) \/ (57343 < c)) :
  Calls Tryz.prog 230 #[.string marksS, .int .i32 c] w fun e w' => (∃ i, e = .returned (.int .i64 i) /\ decide (0 <= i) = markB c) /\ Below w.heap.size w w' := by
 by_cases ha : c < 128
 ·refine (runeAscii_any c w h0 ha).mono ?_
  rintro e w' ⟨rfl, rfl⟩
  refine ⟨⟨_, rfl, ?_⟩, Below.refl _ _⟩
  have := mark_ascii ⟨c.toNat, by omega⟩
  rw [this]
  congr 1
  show ((c.toNat : Nat) : Int) = c
  omega
 ·have hm := mark_high c (by omega)
  have hd : decide ((0 : Int) <= -1) = false := by decide
  by_cases he : c = 65533
  ·subst he
   refine (runeErr_any w).mono ?_
   rintro e w' ⟨rfl, hb⟩
   exact ⟨⟨_, rfl, by rw [hm]; decide⟩, hb⟩
  ·have h3 : (c == 65533) = false := by simpa using he
   rcases encode_form c (by omega) h1 h2 with ⟨e0, e1, hen, hz⟩ | ⟨e0, e1, e2, hen, hz⟩ | ⟨e0, e1, e2, e3, hen, hz⟩
   ·refine (runeHigh2 c w (by omega) h1 h2 h3 e0 e1 hen hz).mono ?_
    rintro e w' ⟨rfl, hb⟩
    exact ⟨⟨_, rfl, by rw [hm]; decide⟩, hb⟩
   ·refine (runeHigh3 c w (by omega) h1 h2 h3 e0 e1 e2 hen hz).mono ?_
    rintro e w' ⟨rfl, hb⟩
    exact ⟨⟨_, rfl, by rw [hm]; decide⟩, hb⟩
   ·refine (runeHigh4 c w (by omega) h1 h2 h3 e0 e1 e2 e3 hen hz).mono ?_
    rintro e w' ⟨rfl, hb⟩
    exact ⟨⟨_, rfl, by rw [hm]; decide⟩, hb⟩
theorem contains_any (c : Int) (w : World) (h0 : 0 <= c) (h1 : c <= 1114111) (h2 : (c < 55296) \/ (57343 < c)) :
  Calls Tryz.prog 216 #[.string marksS, .int .i32 c] w fun e w' => e = .returned (.bool (markB c)) /\ Below w.heap.size w w' := by
 have hr := fun w => rune_any c w h0 h1 h2
 clear h2
 go_enter Tryz.func216, Tryz.ntmps216
 go_wp2_with (go_at_call 230; refine (hr _).mono ?_; rintro e w' ⟨⟨i, rfl, hi⟩, hb⟩)
 go_ret
 exact ⟨rfl, hb⟩
def inNameB (c : Int) : Bool := decide (33 <= c) && !decide (c = 127) && !markB c
theorem inName_any (c : Int) (w : World) (h0 : 0 <= c) (h1 : c <= 1114111) (h2 : (c < 55296) \/ (57343 < c)) :
  Calls Tryz.prog 183 #[.int .i32 c] w fun e w' => e = .returned (.bool (inNameB c)) /\ Below w.heap.size w w' := by
 have hr := fun w => contains_any c w h0 h1 h2
 clear h2
 unfold inNameB
 by_cases h33 : 33 <= c
 ·by_cases h127 : c = 127
  ·subst h127
   go_enter Tryz.func183, Tryz.ntmps183
   go_wp2
   go_ret
   exact ⟨rfl, Below.refl _ _⟩
  ·have hb : (c != 127) = true := by simpa using h127
   rw [decide_eq_true h33, decide_eq_false h127]
   generalize markB c = m at *
   go_enter Tryz.func183, Tryz.ntmps183
   go_wp2_with (go_at_call 216; refine (hr _).mono ?_; rintro e w' ⟨rfl, hb2⟩)
   go_ret
   exact ⟨ret_bool (by simp), hb2⟩
 ·rw [decide_eq_false h33]
  go_enter Tryz.func183, Tryz.ntmps183
  go_wp2
  go_ret
  exact ⟨rfl, Below.refl _ _⟩
theorem decode_fffd (s : ByteArray) (p : Nat) (hc : (Utf8.decode s p).1 = 65533) :
  (Utf8.decode s p).2 = 1 \/ ((Utf8.decode s p).2 = 3 /\ p + 2 < s.size /\ (s.get! p).toNat = 239 /\ (s.get! (p + 1)).toNat = 191 /\ (s.get! (p + 2)).toNat = 189) := by
 have hb0 := (s.get! p).toNat_lt
 have hb1 := (s.get! (p + 1)).toNat_lt
 have hb2 := (s.get! (p + 2)).toNat_lt
 have hb3 := (s.get! (p + 3)).toNat_lt
 have e0 : s.get! (p + 0) = s.get! p := rfl
 unfold Utf8.decode at hc ⊢
 simp only [e0] at hc ⊢
 generalize (s.get! p).toNat = b0 at *
 generalize (s.get! (p + 1)).toNat = b1 at *
 generalize (s.get! (p + 2)).toNat = b2 at *
 generalize (s.get! (p + 3)).toNat = b3 at *
 by_cases q0 : b0 < 128
 ·rw [if_pos q0] at hc; dsimp only at hc; omega
 rw [if_neg q0] at hc ⊢
 by_cases q1 : (b0 / 32 == 6 && (decide (p + 1 < s.size) && b1 / 64 == 2)) = true
 ·rw [if_pos q1] at hc ⊢
  split at hc
  ·dsimp only at hc; omega
  ·left; rw [if_neg (by assumption)]
 rw [if_neg q1] at hc ⊢
 by_cases q2 : (b0 / 16 == 14 && (decide (p + 1 < s.size) && b1 / 64 == 2) && (decide (p + 2 < s.size) && b2 / 64 == 2)) = true
 ·rw [if_pos q2] at hc ⊢
  split at hc
  ·right
   rw [if_pos (by assumption)]
   dsimp only at hc
   simp at q2
   refine ⟨rfl, q2.2.1, ?_, ?_, ?_⟩ <;> omega
  ·left; rw [if_neg (by assumption)]
 rw [if_neg q2] at hc ⊢
 by_cases q3 : (b0 / 8 == 30 && (decide (p + 1 < s.size) && b1 / 64 == 2) && (decide (p + 2 < s.size) && b2 / 64 == 2) && (decide (p + 3 < s.size) && b3 / 64 == 2)) = true
 ·rw [if_pos q3] at hc ⊢
  split at hc
  ·rename_i hq
   dsimp only at hc
   simp at hq
   omega
  ·left; rw [if_neg (by assumption)]
 rw [if_neg q3]; left; rfl
theorem size_high (c : UInt8) (r : List UInt8) (h : 128 <= c.toNat) : sizeL (c :: r) = 0 \/ 2 <= sizeL (c :: r) := by
 have ht : ∀ n a l, 1 <= n -> tailL n a l r = 0 \/ 2 <= tailL n a l r := by
  intro n a l hn
  unfold tailL
  split
  ·left; rfl
  ·split
   ·left; rfl
   ·split
    ·left; rfl
    ·right; omega
 rw [sizeL_cons, if_neg (by omega)]
 split
 ·exact ht _ _ _ (by omega)
 ·split
  ·exact ht _ _ _ (by omega)
  ·split
   ·exact ht _ _ _ (by omega)
   ·left; rfl
theorem u8_eq (x y : UInt8) : (x = y) ↔ (x.toNat = y.toNat) := UInt8.toNat_inj.symm
theorem pre_err (s : ByteArray) (p : Nat) : preB (s.extract p s.size) errS = decide (p + 2 < s.size /\ (s.get! p).toNat = 239 /\ (s.get! (p + 1)).toNat = 191 /\ (s.get! (p + 2)).toNat = 189) := by
 unfold preB
 have hsz : errS.size = 3 := rfl
 rw [hsz, ByteArray.size_extract, Lib.toList_data, Lib.toList_data, extract_front, extract_list]
 by_cases h2 : p + 2 < s.size
 ·have h0 : p < s.size := by omega
  have h1 : p + 1 < s.size := by omega
  rw [drop_cons s p h0, drop_cons s (p + 1) h1, drop_cons s (p + 1 + 1) h2, getbang s p h0, getbang s (p + 1) h1, getbang s (p + 2) h2]
  rw [decide_eq_true (by omega : 3 <= min s.size s.size - p), Bool.true_and]
  rw [Bool.eq_iff_iff, beq_iff_eq, decide_eq_true_eq]
  simp only [List.take_succ_cons, List.take_zero]
  show ([s[p], s[p + 1], s[p + 1 + 1]] = [239, 191, 189]) ↔ _
  simp only [List.cons.injEq, and_true, u8_eq, h2, true_and]
  rfl
 ·rw [decide_eq_false (by omega : ¬ 3 <= min s.size s.size - p), Bool.false_and]
  symm
  rw [decide_eq_false_iff_not]; omega
def goodAt (s : ByteArray) (p : Nat) : Bool := decide (sizeL (s.data.toList.drop p) ≠ 0) && !badHead (s.data.toList.getD p 0).toNat
theorem good_iff (s : ByteArray) (p : Nat) (h : p < s.size) : (inNameB (Utf8.decode s p).1 && !brokenB (Utf8.decode s p).1 (s.extract p s.size)) = goodAt s p := by
 have hby : (s.data.toList.getD p 0).toNat = (s[p]'h).toNat := by
  rw [List.getD_eq_getElem?_getD, List.getElem?_eq_getElem (by simpa using h)]; rfl
 unfold goodAt
 rw [hby]
 have hs0 := drop_cons s p h
 rcases decode_spec s p h with ⟨h1, h2, h3⟩ | ⟨h1, h2, hv, ⟨h4, h5⟩ | ⟨h4, h5⟩⟩
 ·rw [h1, h2]
  have hnp : preB (s.extract p s.size) errS = false := by
   rw [pre_err, decide_eq_false_iff_not]
   rintro ⟨q1, q2, q3, q4⟩
   rw [getbang s p h] at q2
   rw [getbang s (p + 1) (by omega)] at q3
   rw [getbang s (p + 2) q1] at q4
   rw [drop_cons s p h, drop_cons s (p + 1) (by omega), drop_cons s (p + 1 + 1) q1, sizeL_cons, if_neg (by omega), if_neg (by omega), if_pos (by omega), tail2, if_pos ?_] at h1
   ·omega
   ·rw [q2, q3]
    have q4' : (s[p + 1 + 1]'q1).toNat = 189 := q4
    rw [q4']
    decide
  unfold brokenB
  rw [hnp]
  simp
 ·have hb : brokenB ((Utf8.decode s p).1 : Int) (s.extract p s.size) = false := by
   unfold brokenB; rw [decide_eq_false (by omega), Bool.false_and]
  rw [hb, h1, h5]
  rw [decide_eq_true (by omega)]
  unfold inNameB badHead
  generalize ((s[p]'h).toNat : Int) = x
  cases markB x <;> simp
  ·by_cases h33 : x < 33
   ·simp [h33]; omega
   ·have h34 : decide (33 <= x) = true := decide_eq_true (by omega)
    rw [h34, decide_eq_false h33]
    by_cases h127 : x = 127
    ·subst h127; rfl
    ·rw [decide_eq_false h127, beq_eq_false_iff_ne.2 h127]; rfl
 ·have hn : inNameB ((Utf8.decode s p).1 : Int) = true := by
   unfold inNameB
   rw [mark_high _ (by omega)]
   simp; omega
  have hbd : badHead ((s[p]'h).toNat : Int) = false := by
   unfold badHead
   rw [mark_high _ (by omega)]
   simp; omega
  have h2' : 2 <= (Utf8.decode s p).2 := by
   rw [hs0] at h1
   rcases size_high (s[p]'h) (s.data.toList.drop (p + 1)) h4 with q | q
   ·omega
   ·omega
  have hb : brokenB ((Utf8.decode s p).1 : Int) (s.extract p s.size) = false := by
   unfold brokenB
   by_cases hc : (Utf8.decode s p).1 = 65533
   ·rcases decode_fffd s p hc with q | ⟨-, q⟩
    ·omega
    ·rw [pre_err, decide_eq_true q]; simp
   ·rw [decide_eq_false (by omega), Bool.false_and]
  rw [hn, hb, hbd, decide_eq_true (by omega)]
end Go.Proofs.YtalmoiogbdahcaaGreat
