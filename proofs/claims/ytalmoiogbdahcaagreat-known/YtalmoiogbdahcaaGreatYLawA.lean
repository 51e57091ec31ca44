import Derived.Test.YtalmoiogbdahcaaGreatYRefA
import Derived.Lib.Strings
namespace Go.Proofs.YtalmoiogbdahcaaGreat
set_option maxRecDepth 100000
set_option maxHeartbeats 8000000
open Go.RowKit
def pickN (c : Int) (n : Int) : Int := (if c < 0 then -(c + 1) else c) % n
theorem pickN_bd (c n : Int) (h : 0 < n) : 0 <= pickN c n /\ pickN c n < n := ⟨Int.emod_nonneg _ (by omega), Int.emod_lt_of_pos _ h⟩
theorem pick_any (c n : Int) (w : World) (h1 : -9223372036854775808 <= c) (h2 : c <= 9223372036854775807) (h3 : 0 < n) (h4 : n <= 9223372036854775807) :
  Calls Tryz.prog 75 #[.int .i64 c, .int .i64 n] w fun e w' => e = .returned (.int .i64 (pickN c n)) /\ w' = w := by
 by_cases h : c < 0
 ·go_enter Tryz.func75, Tryz.ntmps75
  go_wp2
  go_ret
  refine ⟨ret_int ?_, rfl⟩
  unfold pickN
  rw [if_pos h, ← Int.tmod_eq_emod_of_nonneg (by omega), Int.neg_tmod]
 ·go_enter Tryz.func75, Tryz.ntmps75
  go_wp2
  go_ret
  refine ⟨ret_int ?_, rfl⟩
  unfold pickN
  rw [if_neg (by omega)]
def strokesS (i : Nat) : ByteArray := { data := (List.replicate (i + 1) 47).toArray }
theorem strokesS_size (i : Nat) : (strokesS i).size = i + 1 := by simp [strokesS, ByteArray.size]
theorem strokesS_succ (i : Nat) : strokesS i ++ { data := #[47] } = strokesS (i + 1) := by
 apply ByteArray.ext
 apply Array.ext'
 simp [strokesS, List.replicate_succ']
theorem strokes_any (i : Nat) (w : World) (h : i <= 140737488355328) :
  Calls Tryz.prog 81 #[.int .i64 i] w fun e w' => e = .returned (.string (strokesS i)) /\ w' = w := by
 go_enter Tryz.func81, Tryz.ntmps81
 go_wp2
 go_loop [3, 4] (fun s k => ∃ n : Nat, n <= i /\ k = .int .i64 n /\ s = .string (strokesS n)) (fun _ k => i - (intOf k).toNat)
 case atStart => exact ⟨0, Nat.zero_le _, rfl, rfl⟩
 case round =>
  obtain ⟨n, hn, rfl, rfl⟩ := hrel
  have hsz := strokesS_size n
  have HS : Hid (strokesS n ++ { data := #[47] } = strokesS (n + 1)) := strokesS_succ n
  by_cases hlt : n < i
  ·generalize strokesS n = s at *
   go_wp2
   go_round
   case rel => exact ⟨n + 1, by omega, by go_num, by rw [HS.out]⟩
   case measure => simp [intOf]; omega
  ·obtain rfl : n = i := by omega
   go_wp2
   go_ret
   exact ⟨rfl, rfl⟩
def StrsAt (w : World) (v : Value) (xs : List ByteArray) : Prop :=
 (v = .slice none 0 0 /\ xs = []) \/ ∃ b off cap, v = .slice (some ⟨b, off, none⟩) xs.length cap /\ ∀ i x, xs[i]? = some x -> w.cell? ⟨b, off + i, none⟩ = some (.string x)
def allAre (xs : List ByteArray) (m : ByteArray) : Bool := xs.all fun x => x.toList == m.toList
theorem full_any (v : Value) (xs : List ByteArray) (m : ByteArray) (w : World) (h : StrsAt w v xs) (hl : xs.length <= maxLen) :
  Calls Tryz.prog 82 #[v, .string m] w fun e w' => e = .returned (.bool (allAre xs m)) /\ w' = w := by
 unfold maxLen at hl
 rcases h with ⟨rfl, rfl⟩ | ⟨b, off, cap, rfl, hc⟩
 ·go_enter Tryz.func82, Tryz.ntmps82
  go_wp2
  refine wp_loop_rounds 1 ?_
  rw [rounds_succ]
  go_wp2
  go_ret
  exact ⟨rfl, rfl⟩
 ·go_enter Tryz.func82, Tryz.ntmps82
  go_wp2
  go_loop [5] (fun i => ∃ k : Nat, k <= xs.length /\ i = .int .i64 k /\ allAre (xs.take k) m = true) (fun i => xs.length - (intOf i).toNat)
  case atStart => exact ⟨0, Nat.zero_le _, rfl, rfl⟩
  case round =>
   obtain ⟨k, hk, rfl, hh⟩ := hrel
   have HH : Hid (allAre (xs.take k) m = true) := hh
   clear hh
   by_cases hlt : k < xs.length
   ·have hck := hc k xs[k] (List.getElem?_eq_getElem hlt)
    have HS : Hid (allAre (xs.take (k + 1)) m = (allAre (xs.take k) m && (xs[k].toList == m.toList))) := by
     show _ = _
     rw [List.take_succ_eq_append_getElem hlt]; unfold allAre; rw [List.all_append]; simp
    clear hc
    generalize hx : xs[k] = x at *
    by_cases hq : (x.toList == m.toList) = true
    ·go_wp2
     go_round
     case rel => exact ⟨k + 1, by omega, by go_num, by rw [HS.out, HH.out, hq]; rfl⟩
     case measure => simp [intOf]; omega
    ·have hq : (x.toList == m.toList) = false := by simpa using hq
     go_wp2
     go_ret
     refine ⟨ret_bool ?_, rfl⟩
     symm
     have h2 : allAre (xs.take (k + 1)) m = false := by rw [HS.out, hq]; simp
     unfold allAre at h2 ⊢
     rw [List.all_eq_false] at h2 ⊢
     obtain ⟨y, hy, h3⟩ := h2
     exact ⟨y, List.mem_of_mem_take hy, h3⟩
   ·go_wp2
    go_ret
    have := HH.out
    rw [List.take_of_length_le (by omega)] at this
    exact ⟨ret_bool this.symm, rfl⟩
theorem drewN_two (w : World) (a b : Nat) : (w.drewN a).drewN b = w.drewN (a + b) := by
 simp [World.drewN, Nat.add_assoc]
def sameL (xs ys : List ByteArray) : Bool := decide (xs = ys)
theorem byte_eq (a b : ByteArray) : (a.toList == b.toList) = decide (a = b) := by
 rw [Lib.toList_data, Lib.toList_data]
 by_cases h : a = b
 ·subst h; simp
 ·rw [decide_eq_false h, beq_eq_false_iff_ne]; intro e; exact h (ByteArray.ext (Array.ext' e))
theorem same_any (v u : Value) (xs ys : List ByteArray) (w : World) (h : StrsAt w v xs) (g : StrsAt w u ys) (hl : xs.length <= maxLen) (gl : ys.length <= maxLen) :
  Calls Tryz.prog 77 #[v, u] w fun e w' => e = .returned (.bool (sameL xs ys)) /\ ∃ n, w' = w.drewN n := by
 unfold maxLen at hl gl
 by_cases hne : xs.length = ys.length
 ·rcases h with ⟨rfl, rfl⟩ | ⟨b, off, cap, rfl, hc⟩
  ·have hy : ys = [] := List.eq_nil_of_length_eq_zero hne.symm
   subst hy
   rcases g with ⟨rfl, -⟩ | ⟨b', off', cap', rfl, gc⟩
   all_goals
    go_enter Tryz.func77, Tryz.ntmps77
    go_wp2
    refine wp_loop_rounds 1 ?_
    rw [rounds_succ]
    go_wp2
    go_ret
    exact ⟨rfl, ⟨0, rfl⟩⟩
  ·rcases g with ⟨rfl, rfl⟩ | ⟨b', off', cap', rfl, gc⟩
   ·have hx : xs = [] := List.eq_nil_of_length_eq_zero hne
    subst hx
    go_enter Tryz.func77, Tryz.ntmps77
    go_wp2
    refine wp_loop_rounds 1 ?_
    rw [rounds_succ]
    go_wp2
    go_ret
    exact ⟨rfl, ⟨0, rfl⟩⟩
   ·obtain ⟨n, hn⟩ : ∃ n, xs.length = n := ⟨_, rfl⟩
    have HX : Hid (xs.length = n) := hn
    have HY : Hid (ys.length = n) := by show _ = _; omega
    rw [← hne, hn]
    rw [hn] at hl
    clear hn hne gl
    go_enter Tryz.func77, Tryz.ntmps77
    go_wp2
    go_loopw [5] (fun i wr => ∃ k d : Nat, k <= n /\ i = .int .i64 k /\ wr = w.drewN d /\ xs.take k = ys.take k) (fun i _ => n - (intOf i).toNat)
    case atStart => exact ⟨0, 0, Nat.zero_le _, rfl, rfl, rfl⟩
    case round =>
     obtain ⟨k, d, hk, rfl, rfl, hh⟩ := hrel
     have HH : Hid (xs.take k = ys.take k) := hh
     clear hh
     by_cases hlt : k < n
     ·have hkx : k < xs.length := by have := HX.out; omega
      have hky : k < ys.length := by have := HY.out; omega
      obtain ⟨x, hx⟩ : ∃ x, xs[k] = x := ⟨_, rfl⟩
      obtain ⟨y, hy⟩ : ∃ y, ys[k] = y := ⟨_, rfl⟩
      have h1 := hc k x (by rw [List.getElem?_eq_getElem hkx, hx])
      have h2 := gc k y (by rw [List.getElem?_eq_getElem hky, hy])
      have HZ : Hid (xs.take (k + 1) = xs.take k ++ [x] /\ ys.take (k + 1) = ys.take k ++ [y]) := ⟨by rw [List.take_succ_eq_append_getElem hkx, hx], by rw [List.take_succ_eq_append_getElem hky, hy]⟩
      have HW : Hid (xs = ys -> x = y) := by
       intro e; subst e; rw [← hx, ← hy]
      clear hkx hky hx hy hc gc
      by_cases hq : (x.toList == y.toList) = true
      ·go_wp2
       go_quiet (fail)
       go_wp2
       go_roundw
       case rel => exact ⟨k + 1, d + nq, by omega, by go_num, rfl, by rw [HZ.out.1, HZ.out.2, HH.out]; rw [byte_eq, decide_eq_true_eq] at hq; rw [hq]⟩
       case measure => simp [intOf]; omega
      ·have hq : (x.toList == y.toList) = false := by simpa using hq
       go_wp2
       go_quiet (fail)
       go_wp2
       go_ret
       refine ⟨ret_bool ?_, ⟨d + nq, drewN_two w d nq⟩⟩
       symm
       refine decide_eq_false (fun e => ?_)
       rw [byte_eq, decide_eq_false_iff_not] at hq
       exact hq (HW.out e)
     ·go_wp2
      go_ret
      refine ⟨ret_bool ?_, ⟨_, rfl⟩⟩
      have := HH.out
      rw [List.take_of_length_le (by have := HX.out; omega), List.take_of_length_le (by have := HY.out; omega)] at this
      exact (decide_eq_true this).symm
 ·have hb : ((xs.length : Int) != (ys.length : Int)) = true := by simp; omega
  have hs : sameL xs ys = false := decide_eq_false (fun e => hne (by rw [e]))
  rw [hs]
  clear hs
  rcases h with ⟨rfl, rfl⟩ | ⟨b, off, cap, rfl, hc⟩
  ·rcases g with ⟨rfl, rfl⟩ | ⟨b', off', cap', rfl, gc⟩
   ·exact absurd rfl hne
   ·have hb : ((0 : Int) != (ys.length : Int)) = true := hb
    go_enter Tryz.func77, Tryz.ntmps77
    go_wp2
    go_ret
    exact ⟨rfl, ⟨0, rfl⟩⟩
  ·rcases g with ⟨rfl, rfl⟩ | ⟨b', off', cap', rfl, gc⟩
   ·have hb : ((xs.length : Int) != (0 : Int)) = true := hb
    go_enter Tryz.func77, Tryz.ntmps77
    go_wp2
    go_ret
    exact ⟨rfl, ⟨0, rfl⟩⟩
   ·go_enter Tryz.func77, Tryz.ntmps77
    go_wp2
    go_ret
    exact ⟨rfl, ⟨0, rfl⟩⟩
end Go.Proofs.YtalmoiogbdahcaaGreat
