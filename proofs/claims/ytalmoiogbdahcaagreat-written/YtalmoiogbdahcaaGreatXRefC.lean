import Derived.Test.YtalmoiogbdahcaaGreatXRefA

/- Which texts are names, things, nodes and tuples, as the document's reader tells them. -/
namespace Go.Proofs.YtalmoiogbdahcaaGreat
open Go.RowKit

def markL : List UInt8 := [58, 35, 64, 61, 124, 38, 40, 41, 62, 43, 45]
def markB (x : Int) : Bool := hasB markL x
def badHead (x : Int) : Bool := markB x || decide (x < 33) || x == 127
/-- a name of at most r - 1 runes more (r = 9: none was read yet). -/
def nameR : Nat → List UInt8 → Bool
  | 0, _ => false
  | r + 1, [] => decide (r < 8)
  | r + 1, c :: l => if sizeL (c :: l) = 0 then false else if badHead c.toNat = true then false else nameR r ((c :: l).drop (sizeL (c :: l)))
def nameL (l : List UInt8) : Bool := nameR 9 l
def nameS (s : ByteArray) : Bool := nameL s.data.toList

theorem tailL_le (n : Nat) (a b : Int) (l : List UInt8) : tailL n a b l ≤ l.length + 1 := by
  unfold tailL; split
  · omega
  · split
    · omega
    · split <;> omega
theorem sizeL_le (l : List UInt8) : sizeL l ≤ l.length := by
  match l with
  | [] => exact Nat.zero_le _
  | c :: r =>
    rw [sizeL_cons]
    have h1 := tailL_le 1 ((c.toNat : Int) - 192) 0 r
    have h2 := tailL_le 2 ((c.toNat : Int) - 224) 2048 r
    have h3 := tailL_le 3 ((c.toNat : Int) - 240) 65536 r
    simp only [List.length_cons]
    split
    · omega
    · split
      · omega
      · split
        · omega
        · split <;> omega
theorem extract_list (s : ByteArray) (k : Nat) : (s.extract k s.size).data.toList = s.data.toList.drop k := by
  simp only [ByteArray.data_extract, Array.toList_extract, List.extract_eq_take_drop]
  rw [List.take_of_length_le (by simp)]
theorem extract_front (s : ByteArray) (k : Nat) : (s.extract 0 k).data.toList = s.data.toList.take k := by
  simp [ByteArray.data_extract]
theorem marks_no (x : Int) (w : World) (h : markB x = false) : Calls Tryz.prog 167 #[.string { data := #[58, 35, 64, 61, 124, 38, 40, 41, 62, 43, 45] }, .int .u8 x] w fun e w' => e = .returned (.bool false) ∧ w' = w := by
  have := has_any { data := #[58, 35, 64, 61, 124, 38, 40, 41, 62, 43, 45] } x w (by decide)
  rw [show hasB ({ data := #[58, 35, 64, 61, 124, 38, 40, 41, 62, 43, 45] } : ByteArray).data.toList x = false from h] at this
  exact this
theorem marks_yes (x : Int) (w : World) (h : markB x = true) : Calls Tryz.prog 167 #[.string { data := #[58, 35, 64, 61, 124, 38, 40, 41, 62, 43, 45] }, .int .u8 x] w fun e w' => e = .returned (.bool true) ∧ w' = w := by
  have := has_any { data := #[58, 35, 64, 61, 124, 38, 40, 41, 62, 43, 45] } x w (by decide)
  rw [show hasB ({ data := #[58, 35, 64, 61, 124, 38, 40, 41, 62, 43, 45] } : ByteArray).data.toList x = true from h] at this
  exact this
theorem nameR_bad (r : Nat) (c : UInt8) (l : List UInt8) (h : sizeL (c :: l) = 0 ∨ badHead c.toNat = true) : nameR (r + 1) (c :: l) = false := by
  rw [nameR]; rcases h with h | h
  · rw [if_pos h]
  · by_cases q : sizeL (c :: l) = 0
    · rw [if_pos q]
    · rw [if_neg q, if_pos h]
theorem nameR_good (r : Nat) (c : UInt8) (l : List UInt8) (h : sizeL (c :: l) ≠ 0) (g : badHead c.toNat = false) : nameR (r + 1) (c :: l) = nameR r ((c :: l).drop (sizeL (c :: l))) := by
  rw [nameR, if_neg h, if_neg (by simp [g])]

set_option maxHeartbeats 1000000 in
theorem name_any (s : ByteArray) (w : World) (hs : s.size ≤ maxLen) :
    Calls Tryz.prog 119 #[.string s] w fun e w' => e = .returned (.bool (nameS s)) ∧ w' = w := by
  unfold nameS
  go_enter Tryz.func119, Tryz.ntmps119
  go_wp2
  go_loop [0, 3] (fun a b => ∃ (t : ByteArray) (n : Nat), a = .string t ∧ b = .int .i64 n ∧ n ≤ 9 ∧ t.size ≤ maxLen ∧ nameR (9 - n) t.data.toList = nameL s.data.toList) (fun _ b => 9 - (intOf b).toNat)
  case atStart => exact ⟨s, 0, rfl, rfl, by omega, hs, rfl⟩
  case round =>
    obtain ⟨t, n, rfl, rfl, hn, ht, hrun⟩ := hrel
    have HR : Hid (nameR (9 - n) t.data.toList = nameL s.data.toList) := hrun
    clear hrun
    have HT : Hid (t.size ≤ maxLen) := ht
    unfold maxLen at ht
    by_cases hn9 : n = 9
    · subst hn9
      by_cases h0 : 0 < t.size
      · go_wp2
        go_ret
        exact ⟨ret_bool HR.out, rfl⟩
      · go_wp2
        go_ret
        exact ⟨ret_bool HR.out, rfl⟩
    · have hn' : n < 9 := by omega
      by_cases h0 : 0 < t.size
      · obtain ⟨x, hx⟩ : ∃ x : Int, (t[0].toNat : Int) = x := ⟨_, rfl⟩
        obtain ⟨k, hk⟩ : ∃ k : Nat, sizeL t.data.toList = k := ⟨_, rfl⟩
        have hsz := fun w => size_any t w HT.out h0
        rw [hk] at hsz
        have hkl : k ≤ t.size := by have := sizeL_le t.data.toList; rw [hk] at this; simpa using this
        have HC : Hid (t.data.toList = t[0] :: t.data.toList.drop 1) := cons_of t h0
        have HK : Hid (sizeL t.data.toList = k) := hk
        have HX : Hid ((t[0].toNat : Int) = x) := hx
        clear hk
        have hstop : k = 0 ∨ badHead x = true → nameL s.data.toList = false := by
          intro h
          rw [← HR.out, show 9 - n = (8 - n) + 1 by omega, HC.out]
          refine nameR_bad _ _ _ ?_
          rw [← HC.out, HK.out, HX.out]; exact h
        have hgo : k ≠ 0 → badHead x = false → nameR (9 - (n + 1)) (t.extract k t.size).data.toList = nameL s.data.toList := by
          intro h g
          rw [extract_list, ← HR.out, show 9 - n = (8 - n) + 1 by omega, show 9 - (n + 1) = 8 - n by omega]
          have := nameR_good (8 - n) t[0] (t.data.toList.drop 1) (by rw [← HC.out, HK.out]; exact h) (by rw [HX.out]; exact g)
          rw [← HC.out, HK.out] at this
          exact this.symm
        by_cases hk0 : k = 0
        · subst hk0
          have HN : Hid (false = nameL s.data.toList) := (hstop (Or.inl rfl)).symm
          clear hstop hgo
          cases hm : markB x
          · go_wp2_with (first | (go_at_call 166; refine (hsz _).mono ?_; rintro e w' ⟨rfl, rfl⟩) | (go_at_call 167; refine (marks_no _ _ hm).mono ?_; rintro e w' ⟨rfl, rfl⟩))
            go_ret
            exact ⟨ret_bool HN.out, rfl⟩
          · go_wp2_with (first | (go_at_call 166; refine (hsz _).mono ?_; rintro e w' ⟨rfl, rfl⟩) | (go_at_call 167; refine (marks_yes _ _ hm).mono ?_; rintro e w' ⟨rfl, rfl⟩))
            go_ret
            exact ⟨ret_bool HN.out, rfl⟩
        · have hkp : 0 < k := by omega
          have hkb : ((k : Int) == 0) = false := by simp; omega
          cases hm : markB x
          · by_cases h33 : x < 33
            · have HN : Hid (false = nameL s.data.toList) := (hstop (Or.inr (by simp [badHead, h33]))).symm
              clear hstop hgo
              go_wp2_with (first | (go_at_call 166; refine (hsz _).mono ?_; rintro e w' ⟨rfl, rfl⟩) | (go_at_call 167; refine (marks_no _ _ hm).mono ?_; rintro e w' ⟨rfl, rfl⟩))
              go_ret
              exact ⟨ret_bool HN.out, rfl⟩
            · by_cases h127 : x = 127
              · have HN : Hid (false = nameL s.data.toList) := (hstop (Or.inr (by simp [badHead, h127]))).symm
                clear hstop hgo
                subst h127
                go_wp2_with (first | (go_at_call 166; refine (hsz _).mono ?_; rintro e w' ⟨rfl, rfl⟩) | (go_at_call 167; refine (marks_no _ _ hm).mono ?_; rintro e w' ⟨rfl, rfl⟩))
                go_ret
                exact ⟨ret_bool HN.out, rfl⟩
              · have HN : Hid (nameR (9 - (n + 1)) (t.extract k t.size).data.toList = nameL s.data.toList) := hgo hk0 (by simp [badHead, hm, h127]; omega)
                clear hstop hgo
                have h127b : (x == 127) = false := by simpa using h127
                go_wp2_with (first | (go_at_call 166; refine (hsz _).mono ?_; rintro e w' ⟨rfl, rfl⟩) | (go_at_call 167; refine (marks_no _ _ hm).mono ?_; rintro e w' ⟨rfl, rfl⟩))
                go_round
                case rel => exact ⟨t.extract k t.size, n + 1, rfl, by go_num, by omega, by have := HT.out; simp; omega, HN.out⟩
                case measure => simp [intOf]; omega
          · have HN : Hid (false = nameL s.data.toList) := (hstop (Or.inr (by simp [badHead, hm]))).symm
            clear hstop hgo
            go_wp2_with (first | (go_at_call 166; refine (hsz _).mono ?_; rintro e w' ⟨rfl, rfl⟩) | (go_at_call 167; refine (marks_yes _ _ hm).mono ?_; rintro e w' ⟨rfl, rfl⟩))
            go_ret
            exact ⟨ret_bool HN.out, rfl⟩
      · have h00 : t.data.toList = [] := by
          have : t.data.toList.length = 0 := by simpa using (by omega : t.size = 0)
          exact List.eq_nil_of_length_eq_zero this
        have HN : Hid (decide (1 ≤ n ∧ n ≤ 8) = nameL s.data.toList) := by
          show _ = _
          rw [← HR.out, h00, show 9 - n = (8 - n) + 1 by omega, nameR]
          rw [decide_eq_decide]; omega
        clear h00
        by_cases h1 : 1 ≤ n
        · go_wp2
          go_ret
          refine ⟨ret_bool ?_, rfl⟩
          rw [← HN.out, decide_eq_decide]; omega
        · go_wp2
          go_ret
          refine ⟨ret_bool ?_, rfl⟩
          rw [← HN.out]; symm; rw [decide_eq_false_iff_not]; omega

theorem cutA_size (s : ByteArray) (c : Int) (h : s.size ≤ maxLen) : (cutA s c).size ≤ maxLen := by
  unfold cutA; split
  · simp; omega
  · exact h
theorem cutZ_size (s : ByteArray) (c : Int) (h : s.size ≤ maxLen) : (cutZ s c).size ≤ maxLen := by
  unfold cutZ; split
  · simp; omega
  · simp
def thingS (s : ByteArray) : Bool := cutOk s 58 && nameS (cutA s 58) && nameS (cutZ s 58)
def nodeS (s : ByteArray) : Bool := cutOk s 35 && thingS (cutA s 35) && nameS (cutZ s 35)
def tupleS (s : ByteArray) : Bool := cutOk s 64 && nodeS (cutA s 64) && (thingS (cutZ s 64) || nodeS (cutZ s 64))
theorem cut_gen (s : ByteArray) (c : Int) (hs : s.size ≤ maxLen) : ∃ A Z O, cutA s c = A ∧ cutZ s c = Z ∧ cutOk s c = O ∧ A.size ≤ maxLen ∧ Z.size ≤ maxLen ∧ ∀ w, Calls Tryz.prog 117 #[.string s, .int .u8 c] w fun e w' => e = .returned (.tuple #[.string A, .string Z, .bool O]) ∧ ∃ n, w' = w.drewN n :=
  ⟨_, _, _, rfl, rfl, rfl, cutA_size s c hs, cutZ_size s c hs, fun w => cut_any s c w hs⟩

set_option maxHeartbeats 400000 in
theorem thing_any (s : ByteArray) (w : World) (hs : s.size ≤ maxLen) :
    Calls Tryz.prog 118 #[.string s] w fun e w' => e = .returned (.bool (thingS s)) ∧ ∃ n, w' = w.drewN n := by
  unfold thingS
  obtain ⟨A, Z, O, hA, hZ, hO, ha, hz, hc⟩ := cut_gen s 58 hs
  rw [hA, hZ, hO]
  clear hA hZ hO
  have hna := fun w => name_any A w ha
  have hnz := fun w => name_any Z w hz
  generalize nameS A = x at *
  generalize nameS Z = y at *
  go_enter Tryz.func118, Tryz.ntmps118
  go_wp2_with (first | (go_at_call 117; refine (hc _).mono ?_; rintro e w' ⟨rfl, ⟨n, rfl⟩⟩) | (go_at_call 119; refine (hna _).mono ?_; clear hna; rintro e w' ⟨rfl, rfl⟩) | (go_at_call 119; have _t : True := trivial; refine (hnz _).mono ?_; rintro e w' ⟨rfl, rfl⟩))
  all_goals (go_ret; exact ⟨ret_bool (by simp [*]), ⟨_, rfl⟩⟩)

set_option maxHeartbeats 400000 in
theorem node_any (s : ByteArray) (w : World) (hs : s.size ≤ maxLen) :
    Calls Tryz.prog 73 #[.string s] w fun e w' => e = .returned (.bool (nodeS s)) ∧ ∃ n, w' = w.drewN n := by
  unfold nodeS
  obtain ⟨A, Z, O, hA, hZ, hO, ha, hz, hc⟩ := cut_gen s 35 hs
  rw [hA, hZ, hO]
  clear hA hZ hO
  have hna := fun w => thing_any A w ha
  have hnz := fun w => name_any Z w hz
  generalize thingS A = x at *
  generalize nameS Z = y at *
  go_enter Tryz.func73, Tryz.ntmps73
  go_wp2_with (first | (go_at_call 117; refine (hc _).mono ?_; rintro e w' ⟨rfl, ⟨n, rfl⟩⟩) | (go_at_call 118; refine (hna _).mono ?_; rintro e w' ⟨rfl, ⟨n, rfl⟩⟩) | (go_at_call 119; refine (hnz _).mono ?_; rintro e w' ⟨rfl, rfl⟩))
  all_goals (go_ret; exact ⟨ret_bool (by simp [*]), ⟨_, rfl⟩⟩)

set_option maxHeartbeats 400000 in
theorem tuple_any (s : ByteArray) (w : World) (hs : s.size ≤ maxLen) :
    Calls Tryz.prog 71 #[.string s] w fun e w' => e = .returned (.tuple #[.string (cutA s 64), .string (cutZ s 64), .bool (tupleS s)]) ∧ ∃ n, w' = w.drewN n := by
  unfold tupleS
  obtain ⟨A, Z, O, hA, hZ, hO, ha, hz, hc⟩ := cut_gen s 64 hs
  rw [hA, hZ, hO]
  clear hA hZ hO
  have hna := fun w => node_any A w ha
  have hnz := fun w => thing_any Z w hz
  have hnn := fun w => node_any Z w hz
  generalize nodeS A = x at *
  generalize thingS Z = y at *
  generalize nodeS Z = z at *
  cases O <;> cases x <;> cases y
  all_goals
    go_enter Tryz.func71, Tryz.ntmps71
    go_wp2_with (first | (go_at_call 117; refine (hc _).mono ?_; rintro e w' ⟨rfl, ⟨n, rfl⟩⟩) | (go_at_call 118; refine (hnz _).mono ?_; rintro e w' ⟨rfl, ⟨n, rfl⟩⟩) | (go_at_call 73; refine (hna _).mono ?_; clear hna; rintro e w' ⟨rfl, ⟨n, rfl⟩⟩) | (go_at_call 73; refine (hnn _).mono ?_; rintro e w' ⟨rfl, ⟨n, rfl⟩⟩))
    all_goals (go_ret3; exact ⟨rfl, ⟨_, rfl⟩⟩)

end Go.Proofs.YtalmoiogbdahcaaGreat
