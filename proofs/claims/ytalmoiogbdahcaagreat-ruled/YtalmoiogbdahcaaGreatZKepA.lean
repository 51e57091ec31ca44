import Derived.Test.YtalmoiogbdahcaaGreatZSetA
import Derived.Test.YtalmoiogbdahcaaGreatYRefE
import Derived.Test.YtalmoiogbdahcaaGreatYLawA
import Derived.Laws.IdiomStrings
namespace Go.Proofs.YtalmoiogbdahcaaGreat
set_option maxRecDepth 100000
set_option maxHeartbeats 8000000
open Go.RowKit
theorem kPick_any (c n : Int) (w : World) (h1 : -9223372036854775808 <= c) (h2 : c <= 9223372036854775807) (h3 : 0 < n) (h4 : n <= 9223372036854775807) :
  Calls Tryz.prog 17 #[.int .i64 c, .int .i64 n] w fun e w' => e = .returned (.int .i64 (pickN c n)) /\ w' = w := by
 by_cases h : c < 0
 ·go_enter Tryz.func17, Tryz.ntmps17
  go_wp2
  go_ret
  refine ⟨ret_int ?_, rfl⟩
  unfold pickN
  rw [if_pos h, ← Int.tmod_eq_emod_of_nonneg (by omega), Int.neg_tmod]
 ·go_enter Tryz.func17, Tryz.ntmps17
  go_wp2
  go_ret
  refine ⟨ret_int ?_, rfl⟩
  unfold pickN
  rw [if_neg (by omega)]
def letS (n : Nat) : ByteArray := ⟨#[(97 + n % 4).toUInt8]⟩
theorem back_one (c : UInt8) (w : World) : (convert 71 9 (.slice (some ⟨w.heap.size, 0, none⟩) 1 1)).run Tryz.prog (w.alloc (.cells #[.int .u8 c.toNat] 5)) = .ok (.string ⟨#[c]⟩) (w.alloc (.cells #[.int .u8 c.toNat] 5)) :=
 run_convert_bytes_back (w.alloc (.cells #[.int .u8 c.toNat] 5)) 71 9 5 ⟨w.heap.size, 0, none⟩ 1 [c] Tryz.underlying71 Tryz.underlying5 Tryz.underlying9 (by
  intro j hj
  match j, hj with
  | 0, _ => simp [Addr.add])
theorem letter_any (n : Nat) (w : World) (hn : n <= 9223372036854775807) :
  Calls Tryz.prog 16 #[.int .i64 (n : Nat)] w fun e w' => e = .returned (.string (letS n)) /\ Below w.heap.size w w' := by
 have hm : n % 4 = 0 \/ n % 4 = 1 \/ n % 4 = 2 \/ n % 4 = 3 := by omega
 have ht : (n : Int).tmod 4 = ((n % 4 : Nat) : Int) := by rw [Int.tmod_eq_emod_of_nonneg (by omega)]; omega
 unfold letS
 rcases hm with h | h | h | h
 ·have hb := back_one 97 w
  rw [h] at ht ⊢
  change (convert 71 9 (.slice (some ⟨w.heap.size, 0, none⟩) 1 1)).run Tryz.prog (w.alloc (.cells #[.int .u8 97] 5)) = _ at hb
  clear h
  go_enter Tryz.func16, Tryz.ntmps16
  go_wp2
  go_ret
  exact ⟨rfl, (Below.refl _ _).alloc (Nat.le_refl _) _⟩
 ·have hb := back_one 98 w
  rw [h] at ht ⊢
  change (convert 71 9 (.slice (some ⟨w.heap.size, 0, none⟩) 1 1)).run Tryz.prog (w.alloc (.cells #[.int .u8 98] 5)) = _ at hb
  clear h
  go_enter Tryz.func16, Tryz.ntmps16
  go_wp2
  go_ret
  exact ⟨rfl, (Below.refl _ _).alloc (Nat.le_refl _) _⟩
 ·have hb := back_one 99 w
  rw [h] at ht ⊢
  change (convert 71 9 (.slice (some ⟨w.heap.size, 0, none⟩) 1 1)).run Tryz.prog (w.alloc (.cells #[.int .u8 99] 5)) = _ at hb
  clear h
  go_enter Tryz.func16, Tryz.ntmps16
  go_wp2
  go_ret
  exact ⟨rfl, (Below.refl _ _).alloc (Nat.le_refl _) _⟩
 ·have hb := back_one 100 w
  rw [h] at ht ⊢
  change (convert 71 9 (.slice (some ⟨w.heap.size, 0, none⟩) 1 1)).run Tryz.prog (w.alloc (.cells #[.int .u8 100] 5)) = _ at hb
  clear h
  go_enter Tryz.func16, Tryz.ntmps16
  go_wp2
  go_ret
  exact ⟨rfl, (Below.refl _ _).alloc (Nat.le_refl _) _⟩
def hasL (l : List ByteArray) (s : ByteArray) : Bool := l.any fun x => x.toList == s.toList
theorem kHas_any (v : Value) (xs : List ByteArray) (s : ByteArray) (w : World) (h : StrsAt w v xs) (hl : xs.length <= maxLen) :
  Calls Tryz.prog 18 #[v, .string s] w fun e w' => e = .returned (.bool (hasL xs s)) /\ w' = w := by
 unfold maxLen at hl
 rcases h with ⟨rfl, rfl⟩ | ⟨b, off, cap, rfl, hc⟩
 ·go_enter Tryz.func18, Tryz.ntmps18
  go_wp2
  refine wp_loop_rounds 1 ?_
  rw [rounds_succ]
  go_wp2
  go_ret
  exact ⟨rfl, rfl⟩
 ·have HX : Hid (∀ x ∈ xs, (x.toList == s.toList) = true -> hasL xs s = true) := fun x hx hq => List.any_eq_true.2 ⟨x, hx, hq⟩
  have HN : Hid ((∀ (j : Nat) (y : ByteArray), j < xs.length -> xs[j]? = some y -> (y.toList == s.toList) = false) -> hasL xs s = false) := by
   intro hno
   unfold hasL
   rw [List.any_eq_false]
   intro x hx
   obtain ⟨j, hj⟩ := List.mem_iff_getElem?.1 hx
   rw [hno j x (List.getElem?_eq_some_iff.1 hj).1 hj]; simp
  go_enter Tryz.func18, Tryz.ntmps18
  go_wp2
  go_loop [5] (fun i => ∃ k : Nat, k <= xs.length /\ i = .int .i64 k /\ ∀ (j : Nat) (y : ByteArray), j < k -> xs[j]? = some y -> (y.toList == s.toList) = false) (fun i => xs.length - (intOf i).toNat)
  case atStart => exact ⟨0, Nat.zero_le _, rfl, fun j y hj => absurd hj (Nat.not_lt_zero j)⟩
  case round =>
   obtain ⟨k, hk, rfl, hh⟩ := hrel
   have HH : Hid (∀ (j : Nat) (y : ByteArray), j < k -> xs[j]? = some y -> (y.toList == s.toList) = false) := hh
   clear hh
   by_cases hlt : k < xs.length
   ·obtain ⟨x, hx⟩ : ∃ x, xs[k]? = some x := ⟨_, List.getElem?_eq_getElem hlt⟩
    have hck := hc k x hx
    clear hc
    by_cases hq : (x.toList == s.toList) = true
    ·have HT : Hid (hasL xs s = true) := HX.out x (List.mem_of_getElem? hx) hq
     clear hx
     go_wp2
     go_ret
     exact ⟨by rw [HT.out]; rfl, rfl⟩
    ·have hq : (x.toList == s.toList) = false := by simpa using hq
     have HH2 : Hid (∀ (j : Nat) (y : ByteArray), j < k + 1 -> xs[j]? = some y -> (y.toList == s.toList) = false) := by
      intro j y hj hy
      rcases Nat.lt_or_ge j k with h | h
      ·exact HH.out j y h hy
      ·obtain rfl : j = k := by omega
       rw [hx] at hy; injection hy with hy; subst hy; exact hq
     clear hx
     go_wp2
     go_round
     case rel => exact ⟨k + 1, by omega, by go_num, HH2.out⟩
     case measure => simp [intOf]; omega
   ·obtain rfl : k = xs.length := by omega
    have HF : Hid (hasL xs s = false) := HN.out HH.out
    clear hc
    go_wp2
    go_ret
    exact ⟨by rw [HF.out]; rfl, rfl⟩
end Go.Proofs.YtalmoiogbdahcaaGreat
