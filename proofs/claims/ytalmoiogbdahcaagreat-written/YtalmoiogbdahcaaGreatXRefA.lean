import Derived.Test.YtalmoiogbdahcaaGreatProg
import Derived.WalkKit
import Derived.WalkSpells
import Derived.WalkLawsBesides
import Derived.Deep.QuietTactic
import Derived.BigQuiet

/- What the document's small readers answer: a text that has a byte, a text cut at a byte. -/
namespace Go.Proofs.YtalmoiogbdahcaaGreat
open Go.RowKit

theorem ret_bool {a b : Bool} (h : a = b) : Ending.returned (.bool a) = .returned (.bool b) := by rw [h]
theorem ret_int {k : IntKind} {a b : Int} (h : a = b) : Ending.returned (.int k a) = .returned (.int k b) := by rw [h]
theorem take_snoc (s : ByteArray) (k : Nat) (h : k < s.size) : s.data.toList.take (k + 1) = s.data.toList.take k ++ [s[k]] := by
  rw [List.take_succ_eq_append_getElem (by simpa using h)]; rfl

def hasB (l : List UInt8) (c : Int) : Bool := l.any fun x => (x.toNat : Int) == c
theorem hasB_snoc (l : List UInt8) (x : UInt8) (c : Int) : hasB (l ++ [x]) c = (hasB l c || ((x.toNat : Int) == c)) := by
  simp [hasB]
theorem hasB_take {l : List UInt8} {k : Nat} {c : Int} (h : hasB (l.take k) c = true) : hasB l c = true := by
  unfold hasB at h ⊢
  rw [List.any_eq_true] at h ⊢
  obtain ⟨x, hx, h⟩ := h
  exact ⟨x, List.mem_of_mem_take hx, h⟩

set_option maxHeartbeats 400000 in
theorem has_any (s : ByteArray) (c : Int) (w : World) (hs : s.size ≤ maxLen) :
    Calls Tryz.prog 167 #[.string s, .int .u8 c] w fun e w' => e = .returned (.bool (hasB s.data.toList c)) ∧ w' = w := by
  unfold maxLen at hs
  go_enter Tryz.func167, Tryz.ntmps167
  go_wp2
  go_loop [5] (fun i => ∃ k : Nat, k ≤ s.size ∧ i = .int .i64 k ∧ hasB (s.data.toList.take k) c = false) (fun i => s.size - (intOf i).toNat)
  case atStart => exact ⟨0, Nat.zero_le _, rfl, rfl⟩
  case round =>
    obtain ⟨k, hk, rfl, hh⟩ := hrel
    have HH : Hid (hasB (s.data.toList.take k) c = false) := hh
    clear hh
    by_cases hlt : k < s.size
    · have HS : Hid (hasB (s.data.toList.take (k + 1)) c = (hasB (s.data.toList.take k) c || ((s[k].toNat : Int) == c))) := by
        show _ = _
        rw [take_snoc s k hlt, hasB_snoc]
      by_cases hc : (s[k].toNat : Int) = c
      · go_wp2
        go_ret
        refine ⟨ret_bool ?_, rfl⟩
        symm
        apply hasB_take (k := k + 1)
        rw [HS.out]; simp [hc]
      · go_wp2
        go_round
        case rel => exact ⟨k + 1, by omega, by go_num, by rw [HS.out, HH.out]; simp [hc]⟩
        case measure => simp [intOf]; omega
    · go_wp2
      go_ret
      refine ⟨ret_bool ?_, rfl⟩
      have := HH.out
      rw [List.take_of_length_le (by simp; omega)] at this
      exact this.symm

/-- the place of the first such byte. -/
def idxB (l : List UInt8) (c : Int) : Option Nat := l.findIdx? fun x => (x.toNat : Int) == c
def cutA (s : ByteArray) (c : Int) : ByteArray := match idxB s.data.toList c with | some i => s.extract 0 i | none => s
def cutZ (s : ByteArray) (c : Int) : ByteArray := match idxB s.data.toList c with | some i => s.extract (i + 1) s.size | none => ByteArray.empty
def cutOk (s : ByteArray) (c : Int) : Bool := (idxB s.data.toList c).isSome
theorem idxB_snoc (l : List UInt8) (x : UInt8) (r : List UInt8) (c : Int) (h : idxB l c = none) : idxB (l ++ x :: r) c = if (x.toNat : Int) == c then some l.length else (idxB r c).map (· + (l.length + 1)) := by
  unfold idxB at h ⊢
  rw [List.findIdx?_append, h]
  simp only [Option.none_or, List.findIdx?_cons]
  split <;> simp [Option.map_map, Function.comp_def]
  congr 1; funext y; omega
theorem idxB_none_snoc (l : List UInt8) (x : UInt8) (c : Int) (h : idxB l c = none) (hx : ¬ (x.toNat : Int) = c) : idxB (l ++ [x]) c = none := by
  rw [idxB_snoc l x [] c h]; simp [hx, idxB]
theorem drop_at (s : ByteArray) (k : Nat) (h : k < s.size) : s.data.toList = s.data.toList.take k ++ s[k] :: s.data.toList.drop (k + 1) := by
  have h' : k < s.data.toList.length := by simpa using h
  have := (List.take_append_drop k s.data.toList).symm
  rw [List.drop_eq_getElem_cons h'] at this
  exact this
theorem cut_found (s : ByteArray) (c : Int) (k : Nat) (h : k < s.size) (hn : idxB (s.data.toList.take k) c = none) (hc : (s[k].toNat : Int) = c) : idxB s.data.toList c = some k := by
  rw [drop_at s k h, idxB_snoc _ _ _ _ hn]
  simp [hc]; omega

set_option maxHeartbeats 400000 in
theorem cut_any (s : ByteArray) (c : Int) (w : World) (hs : s.size ≤ maxLen) :
    Calls Tryz.prog 117 #[.string s, .int .u8 c] w fun e w' => e = .returned (.tuple #[.string (cutA s c), .string (cutZ s c), .bool (cutOk s c)]) ∧ ∃ n, w' = w.drewN n := by
  unfold maxLen at hs
  go_enter Tryz.func117, Tryz.ntmps117
  go_wp2
  go_loop [7] (fun i => ∃ k : Nat, k ≤ s.size ∧ i = .int .i64 k ∧ idxB (s.data.toList.take k) c = none) (fun i => s.size - (intOf i).toNat)
  case atStart => exact ⟨0, Nat.zero_le _, rfl, rfl⟩
  case round =>
    obtain ⟨k, hk, rfl, hh⟩ := hrel
    have HH : Hid (idxB (s.data.toList.take k) c = none) := hh
    clear hh
    by_cases hlt : k < s.size
    · by_cases hc : (s[k].toNat : Int) = c
      · have HF : Hid (idxB s.data.toList c = some k) := cut_found s c k hlt HH.out hc
        go_wp2
        go_quiet (fail)
        go_wp2
        go_ret3
        refine ⟨?_, ⟨_, rfl⟩⟩
        unfold cutA cutZ cutOk
        rw [HF.out]
        rfl
      · go_wp2
        go_round
        case rel => exact ⟨k + 1, by omega, by go_num, by rw [take_snoc s k hlt]; exact idxB_none_snoc _ _ _ HH.out hc⟩
        case measure => simp [intOf]; omega
    · go_wp2
      go_ret3
      have h2 := HH.out
      rw [List.take_of_length_le (by simp; omega)] at h2
      refine ⟨?_, ⟨0, rfl⟩⟩
      unfold cutA cutZ cutOk
      rw [h2]
      rfl

end Go.Proofs.YtalmoiogbdahcaaGreat

/- How many bytes the first rune of a text has, as the document's reader counts them. -/
namespace Go.Proofs.YtalmoiogbdahcaaGreat
open Go.RowKit

/-- the code that follow-up bytes make, from a start on. -/
def foldC (start : Int) (l : List UInt8) : Int := l.foldl (fun a x => 64 * a + (x.toNat : Int) - 128) start
def follow (l : List UInt8) : Bool := l.all fun x => decide (128 ≤ (x.toNat : Int)) && decide ((x.toNat : Int) ≤ 191)
def codeBad (least code : Int) : Bool := decide (code < least) || decide (1114111 < code) || (decide (55296 ≤ code) && decide (code < 57344))
/-- the rest of a rune: n more bytes. -/
def tailL (n : Nat) (start least : Int) (l : List UInt8) : Nat :=
  if l.length < n then 0 else if follow (l.take n) = false then 0 else if codeBad least (foldC start (l.take n)) = true then 0 else n + 1
def sizeL : List UInt8 → Nat
  | [] => 0
  | c :: r =>
    if (c.toNat : Int) < 128 then 1
    else if 194 ≤ (c.toNat : Int) ∧ (c.toNat : Int) < 224 then tailL 1 ((c.toNat : Int) - 192) 0 r
    else if 224 ≤ (c.toNat : Int) ∧ (c.toNat : Int) < 240 then tailL 2 ((c.toNat : Int) - 224) 2048 r
    else if 240 ≤ (c.toNat : Int) ∧ (c.toNat : Int) < 245 then tailL 3 ((c.toNat : Int) - 240) 65536 r
    else 0
theorem follow_snoc (l : List UInt8) (x : UInt8) : follow (l ++ [x]) = (follow l && (decide (128 ≤ (x.toNat : Int)) && decide ((x.toNat : Int) ≤ 191))) := by simp [follow]
theorem foldC_snoc (a : Int) (l : List UInt8) (x : UInt8) : foldC a (l ++ [x]) = 64 * foldC a l + (x.toNat : Int) - 128 := by simp [foldC]
theorem foldC_bd (l : List UInt8) : ∀ (a : Int), 0 ≤ a → a ≤ 31 → l.length ≤ 3 → follow l = true → 0 ≤ foldC a l ∧ foldC a l ≤ 8388607 := by
  intro a h0 h1 h3 hf
  match l, h3 with
  | [], _ => simp [foldC]; omega
  | [x], _ => simp [foldC, follow] at hf ⊢; omega
  | [x, y], _ => simp [foldC, follow] at hf ⊢; omega
  | [x, y, z], _ => simp [foldC, follow] at hf ⊢; omega
theorem follow_take_false {l : List UInt8} {i n : Nat} (h : follow (l.take i) = false) (hi : i ≤ n) : follow (l.take n) = false := by
  unfold follow at h ⊢
  rw [List.all_eq_false] at h ⊢
  obtain ⟨x, hx, h⟩ := h
  refine ⟨x, ?_, h⟩
  rw [show l.take i = (l.take n).take i by rw [List.take_take, Nat.min_eq_left hi]] at hx
  exact List.mem_of_mem_take hx
theorem rest_snoc (s : ByteArray) (k : Nat) (h : k + 1 < s.size) : (s.data.toList.drop 1).take (k + 1) = (s.data.toList.drop 1).take k ++ [s[k + 1]] := by
  rw [List.take_succ_eq_append_getElem (by simp; omega)]; simp; rfl
theorem cons_of (s : ByteArray) (h : 0 < s.size) : s.data.toList = s[0] :: s.data.toList.drop 1 := by
  have := drop_at s 0 h; simpa using this


set_option maxHeartbeats 1000000 in
theorem size_tail1 (s : ByteArray) (w : World) (hs : s.size ≤ maxLen) (h0 : 0 < s.size) (x : Int) (hx : (s[0].toNat : Int) = x) (ha : 194 ≤ x) (hb : x < 224) (r : List UInt8) (hr : Hid (s.data.toList.drop 1 = r)) (hrl : r.length + 1 = s.size) :
    Calls Tryz.prog 166 #[.string s] w fun e w' => e = .returned (.int .i64 (tailL 1 (x - 192) 0 r)) ∧ w' = w := by
  unfold maxLen at hs
  by_cases hl : s.size ≤ 1
  · go_enter Tryz.func166, Tryz.ntmps166
    go_wp2
    go_ret
    refine ⟨ret_int ?_, rfl⟩
    unfold tailL
    rw [if_pos (by omega)]; rfl
  · go_enter Tryz.func166, Tryz.ntmps166
    go_wp2
    go_loop [7, 6] (fun i c => ∃ j : Nat, j ≤ 1 ∧ i = .int .i64 ((j : Int) + 1) ∧ c = .int .i64 (foldC (x - 192) (r.take j)) ∧ follow (r.take j) = true) (fun i _ => 1 + 1 - (intOf i).toNat)
    case atStart => exact ⟨0, by omega, rfl, rfl, rfl⟩
    case round =>
      obtain ⟨j, hj, rfl, rfl, hfo⟩ := hrel
      have HF : Hid (follow (r.take j) = true) := hfo
      clear hfo
      have hbd := foldC_bd (r.take j) (x - 192) (by omega) (by omega) (by rw [List.length_take]; omega) HF.out
      have hlen : ¬ r.length < 1 := by omega
      have HL : Hid (¬ r.length < 1) := hlen
      clear hlen
      by_cases hlt : j < 1
      · have hjs : j + 1 < s.size := by omega
        have HS : r.take (j + 1) = r.take j ++ [s[j + 1]] := by rw [← hr.out]; exact rest_snoc s j hjs
        have HC : Hid (foldC (x - 192) (r.take (j + 1)) = 64 * foldC (x - 192) (r.take j) + (s[j + 1].toNat : Int) - 128) := by show _ = _; rw [HS, foldC_snoc]
        have HG : Hid (follow (r.take (j + 1)) = (follow (r.take j) && (decide (128 ≤ (s[j + 1].toNat : Int)) && decide ((s[j + 1].toNat : Int) ≤ 191)))) := by show _ = _; rw [HS, follow_snoc]
        clear HS
        obtain ⟨y, hy⟩ : ∃ y : Int, (s[j + 1].toNat : Int) = y := ⟨_, rfl⟩
        rw [hy] at HC HG
        by_cases h1 : y < 128
        · go_wp2
          go_ret
          refine ⟨ret_int ?_, rfl⟩
          have hf : follow (r.take (j + 1)) = false := by rw [HG.out]; simp; omega
          unfold tailL
          rw [if_neg HL.out, if_pos (follow_take_false hf (by omega))]; rfl
        · by_cases h2 : 191 < y
          · go_wp2
            go_ret
            refine ⟨ret_int ?_, rfl⟩
            have hf : follow (r.take (j + 1)) = false := by rw [HG.out]; simp; omega
            unfold tailL
            rw [if_neg HL.out, if_pos (follow_take_false hf (by omega))]; rfl
          · go_wp2
            go_round
            case rel => exact ⟨j + 1, by omega, by go_num, by rw [HC.out], by rw [HG.out, HF.out]; simp; omega⟩
            case measure => simp [intOf]; omega
      · obtain rfl : j = 1 := by omega
        obtain ⟨z, hz⟩ : ∃ z : Int, foldC (x - 192) (r.take 1) = z := ⟨_, rfl⟩
        have HZ : Hid (foldC (x - 192) (r.take 1) = z) := hz
        rw [hz] at hbd
        rw [hz]
        clear hz
        by_cases hbad : codeBad 0 z = true
        · have hbad' : z < 0 ∨ 1114111 < z ∨ (55296 ≤ z ∧ z < 57344) := by simpa [codeBad, or_assoc] using hbad
          have HB : Hid (codeBad 0 z = true) := hbad
          clear hbad
          have fin : (0 : Int) = (tailL 1 (x - 192) 0 r : Nat) := by
            unfold tailL
            rw [if_neg HL.out, if_neg (by rw [HF.out]; simp), HZ.out, if_pos HB.out]; rfl
          have FN : Hid ((0 : Int) = (tailL 1 (x - 192) 0 r : Nat)) := fin
          clear fin HB
          by_cases q1 : z < 0
          · go_wp2
            go_ret
            exact ⟨ret_int FN.out, rfl⟩
          · by_cases q2 : 1114111 < z
            · go_wp2
              go_ret
              exact ⟨ret_int FN.out, rfl⟩
            · have q3 : 55296 ≤ z ∧ z < 57344 := by omega
              obtain ⟨q4, q5⟩ := q3
              clear hbad'
              go_wp2
              go_ret
              exact ⟨ret_int FN.out, rfl⟩
        · have hbad' : ¬ z < 0 ∧ ¬ 1114111 < z ∧ ¬ (55296 ≤ z ∧ z < 57344) := by simp [codeBad] at hbad; omega
          obtain ⟨q1, q2, q3⟩ := hbad'
          have FN : Hid ((1 : Int) + 1 = (tailL 1 (x - 192) 0 r : Nat)) := by
            show _ = _
            unfold tailL
            rw [if_neg HL.out, if_neg (by rw [HF.out]; simp), HZ.out, if_neg hbad]; rfl
          clear hbad
          by_cases q4 : 55296 ≤ z
          · have q5 : ¬ z < 57344 := by omega
            clear q3
            go_wp2
            go_ret
            exact ⟨ret_int FN.out, rfl⟩
          · clear q3
            go_wp2
            go_ret
            exact ⟨ret_int FN.out, rfl⟩

set_option maxHeartbeats 1000000 in
theorem size_tail2 (s : ByteArray) (w : World) (hs : s.size ≤ maxLen) (h0 : 0 < s.size) (x : Int) (hx : (s[0].toNat : Int) = x) (ha : 224 ≤ x) (hb : x < 240) (r : List UInt8) (hr : Hid (s.data.toList.drop 1 = r)) (hrl : r.length + 1 = s.size) :
    Calls Tryz.prog 166 #[.string s] w fun e w' => e = .returned (.int .i64 (tailL 2 (x - 224) 2048 r)) ∧ w' = w := by
  unfold maxLen at hs
  by_cases hl : s.size ≤ 2
  · go_enter Tryz.func166, Tryz.ntmps166
    go_wp2
    go_ret
    refine ⟨ret_int ?_, rfl⟩
    unfold tailL
    rw [if_pos (by omega)]; rfl
  · go_enter Tryz.func166, Tryz.ntmps166
    go_wp2
    go_loop [7, 6] (fun i c => ∃ j : Nat, j ≤ 2 ∧ i = .int .i64 ((j : Int) + 1) ∧ c = .int .i64 (foldC (x - 224) (r.take j)) ∧ follow (r.take j) = true) (fun i _ => 2 + 1 - (intOf i).toNat)
    case atStart => exact ⟨0, by omega, rfl, rfl, rfl⟩
    case round =>
      obtain ⟨j, hj, rfl, rfl, hfo⟩ := hrel
      have HF : Hid (follow (r.take j) = true) := hfo
      clear hfo
      have hbd := foldC_bd (r.take j) (x - 224) (by omega) (by omega) (by rw [List.length_take]; omega) HF.out
      have hlen : ¬ r.length < 2 := by omega
      have HL : Hid (¬ r.length < 2) := hlen
      clear hlen
      by_cases hlt : j < 2
      · have hjs : j + 1 < s.size := by omega
        have HS : r.take (j + 1) = r.take j ++ [s[j + 1]] := by rw [← hr.out]; exact rest_snoc s j hjs
        have HC : Hid (foldC (x - 224) (r.take (j + 1)) = 64 * foldC (x - 224) (r.take j) + (s[j + 1].toNat : Int) - 128) := by show _ = _; rw [HS, foldC_snoc]
        have HG : Hid (follow (r.take (j + 1)) = (follow (r.take j) && (decide (128 ≤ (s[j + 1].toNat : Int)) && decide ((s[j + 1].toNat : Int) ≤ 191)))) := by show _ = _; rw [HS, follow_snoc]
        clear HS
        obtain ⟨y, hy⟩ : ∃ y : Int, (s[j + 1].toNat : Int) = y := ⟨_, rfl⟩
        rw [hy] at HC HG
        by_cases h1 : y < 128
        · go_wp2
          go_ret
          refine ⟨ret_int ?_, rfl⟩
          have hf : follow (r.take (j + 1)) = false := by rw [HG.out]; simp; omega
          unfold tailL
          rw [if_neg HL.out, if_pos (follow_take_false hf (by omega))]; rfl
        · by_cases h2 : 191 < y
          · go_wp2
            go_ret
            refine ⟨ret_int ?_, rfl⟩
            have hf : follow (r.take (j + 1)) = false := by rw [HG.out]; simp; omega
            unfold tailL
            rw [if_neg HL.out, if_pos (follow_take_false hf (by omega))]; rfl
          · go_wp2
            go_round
            case rel => exact ⟨j + 1, by omega, by go_num, by rw [HC.out], by rw [HG.out, HF.out]; simp; omega⟩
            case measure => simp [intOf]; omega
      · obtain rfl : j = 2 := by omega
        obtain ⟨z, hz⟩ : ∃ z : Int, foldC (x - 224) (r.take 2) = z := ⟨_, rfl⟩
        have HZ : Hid (foldC (x - 224) (r.take 2) = z) := hz
        rw [hz] at hbd
        rw [hz]
        clear hz
        by_cases hbad : codeBad 2048 z = true
        · have hbad' : z < 2048 ∨ 1114111 < z ∨ (55296 ≤ z ∧ z < 57344) := by simpa [codeBad, or_assoc] using hbad
          have HB : Hid (codeBad 2048 z = true) := hbad
          clear hbad
          have fin : (0 : Int) = (tailL 2 (x - 224) 2048 r : Nat) := by
            unfold tailL
            rw [if_neg HL.out, if_neg (by rw [HF.out]; simp), HZ.out, if_pos HB.out]; rfl
          have FN : Hid ((0 : Int) = (tailL 2 (x - 224) 2048 r : Nat)) := fin
          clear fin HB
          by_cases q1 : z < 2048
          · go_wp2
            go_ret
            exact ⟨ret_int FN.out, rfl⟩
          · by_cases q2 : 1114111 < z
            · go_wp2
              go_ret
              exact ⟨ret_int FN.out, rfl⟩
            · have q3 : 55296 ≤ z ∧ z < 57344 := by omega
              obtain ⟨q4, q5⟩ := q3
              clear hbad'
              go_wp2
              go_ret
              exact ⟨ret_int FN.out, rfl⟩
        · have hbad' : ¬ z < 2048 ∧ ¬ 1114111 < z ∧ ¬ (55296 ≤ z ∧ z < 57344) := by simp [codeBad] at hbad; omega
          obtain ⟨q1, q2, q3⟩ := hbad'
          have FN : Hid ((2 : Int) + 1 = (tailL 2 (x - 224) 2048 r : Nat)) := by
            show _ = _
            unfold tailL
            rw [if_neg HL.out, if_neg (by rw [HF.out]; simp), HZ.out, if_neg hbad]; rfl
          clear hbad
          by_cases q4 : 55296 ≤ z
          · have q5 : ¬ z < 57344 := by omega
            clear q3
            go_wp2
            go_ret
            exact ⟨ret_int FN.out, rfl⟩
          · clear q3
            go_wp2
            go_ret
            exact ⟨ret_int FN.out, rfl⟩

set_option maxHeartbeats 1000000 in
theorem size_tail3 (s : ByteArray) (w : World) (hs : s.size ≤ maxLen) (h0 : 0 < s.size) (x : Int) (hx : (s[0].toNat : Int) = x) (ha : 240 ≤ x) (hb : x < 245) (r : List UInt8) (hr : Hid (s.data.toList.drop 1 = r)) (hrl : r.length + 1 = s.size) :
    Calls Tryz.prog 166 #[.string s] w fun e w' => e = .returned (.int .i64 (tailL 3 (x - 240) 65536 r)) ∧ w' = w := by
  unfold maxLen at hs
  by_cases hl : s.size ≤ 3
  · go_enter Tryz.func166, Tryz.ntmps166
    go_wp2
    go_ret
    refine ⟨ret_int ?_, rfl⟩
    unfold tailL
    rw [if_pos (by omega)]; rfl
  · go_enter Tryz.func166, Tryz.ntmps166
    go_wp2
    go_loop [7, 6] (fun i c => ∃ j : Nat, j ≤ 3 ∧ i = .int .i64 ((j : Int) + 1) ∧ c = .int .i64 (foldC (x - 240) (r.take j)) ∧ follow (r.take j) = true) (fun i _ => 3 + 1 - (intOf i).toNat)
    case atStart => exact ⟨0, by omega, rfl, rfl, rfl⟩
    case round =>
      obtain ⟨j, hj, rfl, rfl, hfo⟩ := hrel
      have HF : Hid (follow (r.take j) = true) := hfo
      clear hfo
      have hbd := foldC_bd (r.take j) (x - 240) (by omega) (by omega) (by rw [List.length_take]; omega) HF.out
      have hlen : ¬ r.length < 3 := by omega
      have HL : Hid (¬ r.length < 3) := hlen
      clear hlen
      by_cases hlt : j < 3
      · have hjs : j + 1 < s.size := by omega
        have HS : r.take (j + 1) = r.take j ++ [s[j + 1]] := by rw [← hr.out]; exact rest_snoc s j hjs
        have HC : Hid (foldC (x - 240) (r.take (j + 1)) = 64 * foldC (x - 240) (r.take j) + (s[j + 1].toNat : Int) - 128) := by show _ = _; rw [HS, foldC_snoc]
        have HG : Hid (follow (r.take (j + 1)) = (follow (r.take j) && (decide (128 ≤ (s[j + 1].toNat : Int)) && decide ((s[j + 1].toNat : Int) ≤ 191)))) := by show _ = _; rw [HS, follow_snoc]
        clear HS
        obtain ⟨y, hy⟩ : ∃ y : Int, (s[j + 1].toNat : Int) = y := ⟨_, rfl⟩
        rw [hy] at HC HG
        by_cases h1 : y < 128
        · go_wp2
          go_ret
          refine ⟨ret_int ?_, rfl⟩
          have hf : follow (r.take (j + 1)) = false := by rw [HG.out]; simp; omega
          unfold tailL
          rw [if_neg HL.out, if_pos (follow_take_false hf (by omega))]; rfl
        · by_cases h2 : 191 < y
          · go_wp2
            go_ret
            refine ⟨ret_int ?_, rfl⟩
            have hf : follow (r.take (j + 1)) = false := by rw [HG.out]; simp; omega
            unfold tailL
            rw [if_neg HL.out, if_pos (follow_take_false hf (by omega))]; rfl
          · go_wp2
            go_round
            case rel => exact ⟨j + 1, by omega, by go_num, by rw [HC.out], by rw [HG.out, HF.out]; simp; omega⟩
            case measure => simp [intOf]; omega
      · obtain rfl : j = 3 := by omega
        obtain ⟨z, hz⟩ : ∃ z : Int, foldC (x - 240) (r.take 3) = z := ⟨_, rfl⟩
        have HZ : Hid (foldC (x - 240) (r.take 3) = z) := hz
        rw [hz] at hbd
        rw [hz]
        clear hz
        by_cases hbad : codeBad 65536 z = true
        · have hbad' : z < 65536 ∨ 1114111 < z ∨ (55296 ≤ z ∧ z < 57344) := by simpa [codeBad, or_assoc] using hbad
          have HB : Hid (codeBad 65536 z = true) := hbad
          clear hbad
          have fin : (0 : Int) = (tailL 3 (x - 240) 65536 r : Nat) := by
            unfold tailL
            rw [if_neg HL.out, if_neg (by rw [HF.out]; simp), HZ.out, if_pos HB.out]; rfl
          have FN : Hid ((0 : Int) = (tailL 3 (x - 240) 65536 r : Nat)) := fin
          clear fin HB
          by_cases q1 : z < 65536
          · go_wp2
            go_ret
            exact ⟨ret_int FN.out, rfl⟩
          · by_cases q2 : 1114111 < z
            · go_wp2
              go_ret
              exact ⟨ret_int FN.out, rfl⟩
            · have q3 : 55296 ≤ z ∧ z < 57344 := by omega
              obtain ⟨q4, q5⟩ := q3
              clear hbad'
              go_wp2
              go_ret
              exact ⟨ret_int FN.out, rfl⟩
        · have hbad' : ¬ z < 65536 ∧ ¬ 1114111 < z ∧ ¬ (55296 ≤ z ∧ z < 57344) := by simp [codeBad] at hbad; omega
          obtain ⟨q1, q2, q3⟩ := hbad'
          have FN : Hid ((3 : Int) + 1 = (tailL 3 (x - 240) 65536 r : Nat)) := by
            show _ = _
            unfold tailL
            rw [if_neg HL.out, if_neg (by rw [HF.out]; simp), HZ.out, if_neg hbad]; rfl
          clear hbad
          by_cases q4 : 55296 ≤ z
          · have q5 : ¬ z < 57344 := by omega
            clear q3
            go_wp2
            go_ret
            exact ⟨ret_int FN.out, rfl⟩
          · clear q3
            go_wp2
            go_ret
            exact ⟨ret_int FN.out, rfl⟩


theorem sizeL_cons (c : UInt8) (r : List UInt8) : sizeL (c :: r) = if (c.toNat : Int) < 128 then 1 else if 194 ≤ (c.toNat : Int) ∧ (c.toNat : Int) < 224 then tailL 1 ((c.toNat : Int) - 192) 0 r else if 224 ≤ (c.toNat : Int) ∧ (c.toNat : Int) < 240 then tailL 2 ((c.toNat : Int) - 224) 2048 r else if 240 ≤ (c.toNat : Int) ∧ (c.toNat : Int) < 245 then tailL 3 ((c.toNat : Int) - 240) 65536 r else 0 := rfl

set_option maxHeartbeats 1000000 in
theorem size_any (s : ByteArray) (w : World) (hs : s.size ≤ maxLen) (h0 : 0 < s.size) :
    Calls Tryz.prog 166 #[.string s] w fun e w' => e = .returned (.int .i64 (sizeL s.data.toList)) ∧ w' = w := by
  obtain ⟨x, hx⟩ : ∃ x : Int, (s[0].toNat : Int) = x := ⟨_, rfl⟩
  have hx0 : 0 ≤ x := by omega
  have hsz : sizeL s.data.toList = if x < 128 then 1 else if 194 ≤ x ∧ x < 224 then tailL 1 (x - 192) 0 (s.data.toList.drop 1) else if 224 ≤ x ∧ x < 240 then tailL 2 (x - 224) 2048 (s.data.toList.drop 1) else if 240 ≤ x ∧ x < 245 then tailL 3 (x - 240) 65536 (s.data.toList.drop 1) else 0 := by
    have h := sizeL_cons s[0] (s.data.toList.drop 1)
    rw [← cons_of s h0, hx] at h
    exact h
  by_cases h1 : 194 ≤ x ∧ x < 224
  · rw [hsz, if_neg (by omega), if_pos h1]; exact size_tail1 s w hs h0 x hx h1.1 h1.2 _ rfl (by simp; omega)
  by_cases h2 : 224 ≤ x ∧ x < 240
  · rw [hsz, if_neg (by omega), if_neg h1, if_pos h2]; exact size_tail2 s w hs h0 x hx h2.1 h2.2 _ rfl (by simp; omega)
  by_cases h3 : 240 ≤ x ∧ x < 245
  · rw [hsz, if_neg (by omega), if_neg h1, if_neg h2, if_pos h3]; exact size_tail3 s w hs h0 x hx h3.1 h3.2 _ rfl (by simp; omega)
  rw [hsz]
  unfold maxLen at hs
  clear hsz
  by_cases h4 : x < 128
  · rw [if_pos h4]
    go_enter Tryz.func166, Tryz.ntmps166
    go_wp2
    go_ret
    exact ⟨rfl, rfl⟩
  · rw [if_neg h4, if_neg h1, if_neg h2, if_neg h3]
    by_cases h5 : x < 194
    · clear h1 h2 h3
      go_enter Tryz.func166, Tryz.ntmps166
      go_wp2
      go_ret
      exact ⟨rfl, rfl⟩
    · have h6 : 245 ≤ x := by omega
      clear h1 h2 h3
      go_enter Tryz.func166, Tryz.ntmps166
      go_wp2
      go_ret
      exact ⟨rfl, rfl⟩

end Go.Proofs.YtalmoiogbdahcaaGreat

/- What a way is read as. -/
namespace Go.Proofs.YtalmoiogbdahcaaGreat

/-- what a way is read as. -/
inductive WayT where
  | mk (is : Int) (over rel : ByteArray) (parts : List WayT)
def noneB : ByteArray := { data := #[] }
def thisL : List UInt8 := [116, 104, 105, 115]

end Go.Proofs.YtalmoiogbdahcaaGreat
