import Derived.Test.YtalmoiogbdahcaaGreatXWrdA
import Derived.Laws.RangeAny

/- Which runes a name may have, as the program asks. -/
namespace Go.Proofs.YtalmoiogbdahcaaGreat
open Go.RowKit

def marksS : ByteArray := { data := #[58, 35, 64, 61, 124, 38, 40, 41, 62, 43, 45] }
theorem mark_ascii : ∀ c : Fin 128, decide (0 ≤ Lib.indexByte markL (UInt8.ofNat c.val)) = markB (c.val : Int) := by
  set_option maxRecDepth 100000 in decide
theorem mark_high (c : Int) (h : 128 ≤ c) : markB c = false := by
  unfold markB hasB markL
  simp only [List.any_cons, List.any_nil, Bool.or_false]
  simp
  omega
theorem index_high : ∀ (c : UInt8), 128 ≤ c.toNat → ∀ (l : List UInt8), (∀ x ∈ l, x.toNat < 128) → Lib.indexByte l c = -1 := by
  intro c hc l
  induction l with
  | nil => intro _; rfl
  | cons x l ih =>
    intro h
    have h1 := h x (by simp)
    have h2 := ih (fun y hy => h y (by simp [hy]))
    unfold Lib.indexByte
    have : (x == c) = false := by
      rw [beq_eq_false_iff_ne]; intro e; subst e; omega
    rw [this, h2]; rfl

set_option maxRecDepth 100000 in
set_option maxHeartbeats 1000000 in
theorem runeAscii_any (c : Int) (w : World) (h0 : 0 ≤ c) (h1 : c < 128) :
    Calls Tryz.prog 230 #[.string marksS, .int .i32 c] w fun e w' => e = .returned (.int .i64 (Lib.indexByte markL (UInt8.ofNat c.toNat))) ∧ w' = w := by
  have hi := fun w => indexByte_any marksS c w
  go_enter Tryz.func230, Tryz.ntmps230
  go_wp2_with (go_at_call 232; refine (hi _).mono ?_; rintro e w' ⟨rfl, rfl⟩)
  go_ret
  exact ⟨rfl, rfl⟩

theorem marks_all : ∀ x ∈ markL, x.toNat < 128 := by decide
theorem marks_low (p : Nat) (h : p < marksS.size) : (marksS[p]'h).toNat < 128 := marks_all (markL[p]'h) (List.getElem_mem h)

set_option maxRecDepth 100000 in
set_option maxHeartbeats 1000000 in
theorem runeErr_any (w : World) :
    Calls Tryz.prog 230 #[.string marksS, .int .i32 65533] w fun e w' => e = .returned (.int .i64 (-1)) ∧ Below w.heap.size w w' := by
  go_enter Tryz.func230, Tryz.ntmps230
  go_wp2
  go_loopw [5, 6] (fun _ _ wr => ∃ p : Nat, p ≤ marksS.size ∧ wr = w.iter marksS p) (fun _ _ wr => marksS.size - wr.iterPos w.heap.size)
  case atStart => exact ⟨0, Nat.zero_le _, rfl⟩
  case round =>
    obtain ⟨p, hp, rfl⟩ := hrel
    by_cases hlt : p < marksS.size
    · have ha := marks_low p hlt
      have hn := run_next_ascii (P := Tryz.prog) w marksS p 0 hlt ha
      obtain ⟨y, hy⟩ : ∃ y : Int, ((marksS[p]'hlt).toNat : Int) = y := ⟨_, rfl⟩
      have hyb : (y == 65533) = false := by rw [beq_eq_false_iff_ne]; omega
      rw [hy] at hn
      clear hy ha
      go_wp2
      go_roundw
      case rel => exact ⟨p + 1, by omega, rfl⟩
      case measure => simp; omega
    · have hn := run_next_end (P := Tryz.prog) w marksS p 0 hlt
      go_wp2
      go_ret
      exact ⟨rfl, (Below.refl _ _).alloc (Nat.le_refl _) _⟩

set_option maxRecDepth 100000 in
set_option maxHeartbeats 1000000 in
theorem runeHigh2 (c : Int) (w : World) (h0 : 128 ≤ c) (h1 : c ≤ 1114111) (h2 : (c < 55296) ∨ (57343 < c)) (h3 : (c == 65533) = false) (e0 e1 : UInt8) (he : Utf8.encode c = { data := #[e0, e1] }) (hz : 128 ≤ e1.toNat) :
    Calls Tryz.prog 230 #[.string marksS, .int .i32 c] w fun e w' => e = .returned (.int .i64 (-1)) ∧ Below w.heap.size w w' := by
  have hi : ∀ (z : Int) w, z = e1.toNat → Calls Tryz.prog 232 #[.string (marksS.extract 2 11), .int .u8 z] w fun e w' => e = .returned (.int .i64 (-1)) ∧ w' = w := by
    intro z w hzz
    subst hzz
    have h := indexByte_any (marksS.extract 2 11) e1.toNat w
    rw [index_high _ (by simpa using hz) _ (by decide)] at h
    exact h
  have hne : (((marksS[1]'(by decide)).toNat : Int) != (e1.toNat : Int)) = true := by
    have := marks_low 1 (by decide)
    rw [bne_iff_ne]; omega
  have hms : marksS.size = 11 := rfl
  have hwr : IntKind.i64.wrap 2 = 2 := by decide
  have hget : ∀ h, ({ data := #[e0, e1] } : ByteArray)[1]'h = e1 := fun _ => rfl
  rcases h2 with h2 | h2
  · go_enter Tryz.func230, Tryz.ntmps230
    go_wp2
    go_step3
    go_wp2
    refine wp_loop_rounds 1 ?_
    rw [rounds_succ]
    go_wp2
    go_step3
    go_wp2
    go_quiet (fail)
    go_wp2
    go_quiet ((go_at_call 232; refine (hi _ _ rfl).mono ?_; rintro e w'' ⟨rfl, rfl⟩; exact ⟨rfl, ⟨_, rfl⟩⟩))
    go_wp2
    repeat (first | rw [Exit.noGoto_ret] | simp only [Exit.inBlock, Exit.then])
    go_ret
    exact ⟨rfl, below_drewN (Below.refl _ _) _⟩
  · go_enter Tryz.func230, Tryz.ntmps230
    go_wp2
    go_step3
    go_wp2
    refine wp_loop_rounds 1 ?_
    rw [rounds_succ]
    go_wp2
    go_step3
    go_wp2
    go_quiet (fail)
    go_wp2
    go_quiet ((go_at_call 232; refine (hi _ _ rfl).mono ?_; rintro e w'' ⟨rfl, rfl⟩; exact ⟨rfl, ⟨_, rfl⟩⟩))
    go_wp2
    repeat (first | rw [Exit.noGoto_ret] | simp only [Exit.inBlock, Exit.then])
    go_ret
    exact ⟨rfl, below_drewN (Below.refl _ _) _⟩

set_option maxRecDepth 100000 in
set_option maxHeartbeats 1000000 in
theorem runeHigh3 (c : Int) (w : World) (h0 : 128 ≤ c) (h1 : c ≤ 1114111) (h2 : (c < 55296) ∨ (57343 < c)) (h3 : (c == 65533) = false) (e0 e1 e2 : UInt8) (he : Utf8.encode c = { data := #[e0, e1, e2] }) (hz : 128 ≤ e2.toNat) :
    Calls Tryz.prog 230 #[.string marksS, .int .i32 c] w fun e w' => e = .returned (.int .i64 (-1)) ∧ Below w.heap.size w w' := by
  have hi : ∀ (z : Int) w, z = e2.toNat → Calls Tryz.prog 232 #[.string (marksS.extract 3 11), .int .u8 z] w fun e w' => e = .returned (.int .i64 (-1)) ∧ w' = w := by
    intro z w hzz
    subst hzz
    have h := indexByte_any (marksS.extract 3 11) e2.toNat w
    rw [index_high _ (by simpa using hz) _ (by decide)] at h
    exact h
  have hne : (((marksS[2]'(by decide)).toNat : Int) != (e2.toNat : Int)) = true := by
    have := marks_low 2 (by decide)
    rw [bne_iff_ne]; omega
  have hms : marksS.size = 11 := rfl
  have hwr : IntKind.i64.wrap 3 = 3 := by decide
  have hget : ∀ h, ({ data := #[e0, e1, e2] } : ByteArray)[2]'h = e2 := fun _ => rfl
  rcases h2 with h2 | h2
  · go_enter Tryz.func230, Tryz.ntmps230
    go_wp2
    go_step3
    go_wp2
    refine wp_loop_rounds 1 ?_
    rw [rounds_succ]
    go_wp2
    go_step3
    go_wp2
    go_quiet (fail)
    go_wp2
    go_quiet ((go_at_call 232; refine (hi _ _ rfl).mono ?_; rintro e w'' ⟨rfl, rfl⟩; exact ⟨rfl, ⟨_, rfl⟩⟩))
    go_wp2
    repeat (first | rw [Exit.noGoto_ret] | simp only [Exit.inBlock, Exit.then])
    go_ret
    exact ⟨rfl, below_drewN (Below.refl _ _) _⟩
  · go_enter Tryz.func230, Tryz.ntmps230
    go_wp2
    go_step3
    go_wp2
    refine wp_loop_rounds 1 ?_
    rw [rounds_succ]
    go_wp2
    go_step3
    go_wp2
    go_quiet (fail)
    go_wp2
    go_quiet ((go_at_call 232; refine (hi _ _ rfl).mono ?_; rintro e w'' ⟨rfl, rfl⟩; exact ⟨rfl, ⟨_, rfl⟩⟩))
    go_wp2
    repeat (first | rw [Exit.noGoto_ret] | simp only [Exit.inBlock, Exit.then])
    go_ret
    exact ⟨rfl, below_drewN (Below.refl _ _) _⟩

set_option maxRecDepth 100000 in
set_option maxHeartbeats 1000000 in
theorem runeHigh4 (c : Int) (w : World) (h0 : 128 ≤ c) (h1 : c ≤ 1114111) (h2 : (c < 55296) ∨ (57343 < c)) (h3 : (c == 65533) = false) (e0 e1 e2 e3 : UInt8) (he : Utf8.encode c = { data := #[e0, e1, e2, e3] }) (hz : 128 ≤ e3.toNat) :
    Calls Tryz.prog 230 #[.string marksS, .int .i32 c] w fun e w' => e = .returned (.int .i64 (-1)) ∧ Below w.heap.size w w' := by
  have hi : ∀ (z : Int) w, z = e3.toNat → Calls Tryz.prog 232 #[.string (marksS.extract 4 11), .int .u8 z] w fun e w' => e = .returned (.int .i64 (-1)) ∧ w' = w := by
    intro z w hzz
    subst hzz
    have h := indexByte_any (marksS.extract 4 11) e3.toNat w
    rw [index_high _ (by simpa using hz) _ (by decide)] at h
    exact h
  have hne : (((marksS[3]'(by decide)).toNat : Int) != (e3.toNat : Int)) = true := by
    have := marks_low 3 (by decide)
    rw [bne_iff_ne]; omega
  have hms : marksS.size = 11 := rfl
  have hwr : IntKind.i64.wrap 4 = 4 := by decide
  have hget : ∀ h, ({ data := #[e0, e1, e2, e3] } : ByteArray)[3]'h = e3 := fun _ => rfl
  rcases h2 with h2 | h2
  · go_enter Tryz.func230, Tryz.ntmps230
    go_wp2
    go_step3
    go_wp2
    refine wp_loop_rounds 1 ?_
    rw [rounds_succ]
    go_wp2
    go_step3
    go_wp2
    go_quiet (fail)
    go_wp2
    go_quiet ((go_at_call 232; refine (hi _ _ rfl).mono ?_; rintro e w'' ⟨rfl, rfl⟩; exact ⟨rfl, ⟨_, rfl⟩⟩))
    go_wp2
    repeat (first | rw [Exit.noGoto_ret] | simp only [Exit.inBlock, Exit.then])
    go_ret
    exact ⟨rfl, below_drewN (Below.refl _ _) _⟩
  · go_enter Tryz.func230, Tryz.ntmps230
    go_wp2
    go_step3
    go_wp2
    refine wp_loop_rounds 1 ?_
    rw [rounds_succ]
    go_wp2
    go_step3
    go_wp2
    go_quiet (fail)
    go_wp2
    go_quiet ((go_at_call 232; refine (hi _ _ rfl).mono ?_; rintro e w'' ⟨rfl, rfl⟩; exact ⟨rfl, ⟨_, rfl⟩⟩))
    go_wp2
    repeat (first | rw [Exit.noGoto_ret] | simp only [Exit.inBlock, Exit.then])
    go_ret
    exact ⟨rfl, below_drewN (Below.refl _ _) _⟩

theorem encode_form (c : Int) (h0 : 128 ≤ c) (h1 : c ≤ 1114111) (h2 : (c < 55296) ∨ (57343 < c)) :
    (∃ e0 e1, Utf8.encode c = { data := #[e0, e1] } ∧ 128 ≤ e1.toNat) ∨ (∃ e0 e1 e2, Utf8.encode c = { data := #[e0, e1, e2] } ∧ 128 ≤ e2.toNat) ∨ (∃ e0 e1 e2 e3, Utf8.encode c = { data := #[e0, e1, e2, e3] } ∧ 128 ≤ e3.toNat) := by
  have hv : Utf8.valid c = true := by simp [Utf8.valid]; omega
  have hb : ∀ n : Nat, n < 64 → 128 ≤ (UInt8.ofNat (128 + n)).toNat := by
    intro n hn
    rw [UInt8.toNat_ofNat']; omega
  unfold Utf8.encode
  simp only [hv, if_true]
  split
  · omega
  · split
    · exact Or.inl ⟨_, _, rfl, hb _ (Nat.mod_lt _ (by decide))⟩
    · split
      · exact Or.inr (Or.inl ⟨_, _, _, rfl, hb _ (Nat.mod_lt _ (by decide))⟩)
      · exact Or.inr (Or.inr ⟨_, _, _, _, rfl, hb _ (Nat.mod_lt _ (by decide))⟩)

theorem rune_any (c : Int) (w : World) (h0 : 0 ≤ c) (h1 : c ≤ 1114111) (h2 : (c < 55296) ∨ (57343 < c)) :
    Calls Tryz.prog 230 #[.string marksS, .int .i32 c] w fun e w' => (∃ i, e = .returned (.int .i64 i) ∧ decide (0 ≤ i) = markB c) ∧ Below w.heap.size w w' := by
  by_cases ha : c < 128
  · refine (runeAscii_any c w h0 ha).mono ?_
    rintro e w' ⟨rfl, rfl⟩
    refine ⟨⟨_, rfl, ?_⟩, Below.refl _ _⟩
    have := mark_ascii ⟨c.toNat, by omega⟩
    rw [this]
    congr 1
    show ((c.toNat : Nat) : Int) = c
    omega
  · have hm := mark_high c (by omega)
    have hd : decide ((0 : Int) ≤ -1) = false := by decide
    by_cases he : c = 65533
    · subst he
      refine (runeErr_any w).mono ?_
      rintro e w' ⟨rfl, hb⟩
      exact ⟨⟨_, rfl, by rw [hm]; decide⟩, hb⟩
    · have h3 : (c == 65533) = false := by simpa using he
      rcases encode_form c (by omega) h1 h2 with ⟨e0, e1, hen, hz⟩ | ⟨e0, e1, e2, hen, hz⟩ | ⟨e0, e1, e2, e3, hen, hz⟩
      · refine (runeHigh2 c w (by omega) h1 h2 h3 e0 e1 hen hz).mono ?_
        rintro e w' ⟨rfl, hb⟩
        exact ⟨⟨_, rfl, by rw [hm]; decide⟩, hb⟩
      · refine (runeHigh3 c w (by omega) h1 h2 h3 e0 e1 e2 hen hz).mono ?_
        rintro e w' ⟨rfl, hb⟩
        exact ⟨⟨_, rfl, by rw [hm]; decide⟩, hb⟩
      · refine (runeHigh4 c w (by omega) h1 h2 h3 e0 e1 e2 e3 hen hz).mono ?_
        rintro e w' ⟨rfl, hb⟩
        exact ⟨⟨_, rfl, by rw [hm]; decide⟩, hb⟩

set_option maxHeartbeats 400000 in
theorem contains_any (c : Int) (w : World) (h0 : 0 ≤ c) (h1 : c ≤ 1114111) (h2 : (c < 55296) ∨ (57343 < c)) :
    Calls Tryz.prog 216 #[.string marksS, .int .i32 c] w fun e w' => e = .returned (.bool (markB c)) ∧ Below w.heap.size w w' := by
  have hr := fun w => rune_any c w h0 h1 h2
  clear h2
  go_enter Tryz.func216, Tryz.ntmps216
  go_wp2_with (go_at_call 230; refine (hr _).mono ?_; rintro e w' ⟨⟨i, rfl, hi⟩, hb⟩)
  go_ret
  exact ⟨rfl, hb⟩

def inNameB (c : Int) : Bool := decide (33 ≤ c) && !decide (c = 127) && !markB c

set_option maxHeartbeats 400000 in
theorem inName_any (c : Int) (w : World) (h0 : 0 ≤ c) (h1 : c ≤ 1114111) (h2 : (c < 55296) ∨ (57343 < c)) :
    Calls Tryz.prog 183 #[.int .i32 c] w fun e w' => e = .returned (.bool (inNameB c)) ∧ Below w.heap.size w w' := by
  have hr := fun w => contains_any c w h0 h1 h2
  clear h2
  unfold inNameB
  by_cases h33 : 33 ≤ c
  · by_cases h127 : c = 127
    · subst h127
      go_enter Tryz.func183, Tryz.ntmps183
      go_wp2
      go_ret
      exact ⟨rfl, Below.refl _ _⟩
    · have hb : (c != 127) = true := by simpa using h127
      rw [decide_eq_true h33, decide_eq_false h127]
      generalize markB c = m at *
      go_enter Tryz.func183, Tryz.ntmps183
      go_wp2_with (go_at_call 216; refine (hr _).mono ?_; rintro e w' ⟨rfl, hb2⟩)
      go_ret
      exact ⟨ret_bool (by simp), hb2⟩
  · rw [decide_eq_false h33]
    go_enter Tryz.func183, Tryz.ntmps183
    go_wp2
    go_ret
    exact ⟨rfl, Below.refl _ _⟩

end Go.Proofs.YtalmoiogbdahcaaGreat
