import Derived.Test.YtalmoiogbdahcaaGreatZSetA
import Derived.Test.YtalmoiogbdahcaaGreatZKrlA
import Derived.Test.YtalmoiogbdahcaaGreatZKepA
namespace Go.Proofs.YtalmoiogbdahcaaGreat
set_option maxRecDepth 100000
set_option maxHeartbeats 8000000
open Go.RowKit
def kPre (k : Nat) : ByteArray := if k <= 3 then ⟨#[103, 114, 111, 117, 112, 58]⟩ else ⟨#[100, 111, 99, 58]⟩
def kMid (k : Nat) : ByteArray :=
 if k <= 1 then ⟨#[35, 109, 101, 109, 98, 101, 114, 64, 117, 115, 101, 114, 58]⟩ else if k <= 3 then ⟨#[35, 109, 101, 109, 98, 101, 114, 64, 103, 114, 111, 117, 112, 58]⟩ else if k = 4 then ⟨#[35, 112, 97, 114, 101, 110, 116, 64, 100, 111, 99, 58]⟩ else if k = 5 then ⟨#[35, 114, 101, 97, 100, 101, 114, 64, 103, 114, 111, 117, 112, 58]⟩ else if k = 6 then ⟨#[35, 111, 119, 110, 101, 114, 64, 117, 115, 101, 114, 58]⟩ else if k = 7 then ⟨#[35, 116, 114, 117, 115, 116, 101, 100, 64, 103, 114, 111, 117, 112, 58]⟩ else ⟨#[35, 98, 111, 116, 104, 64, 117, 115, 101, 114, 58]⟩
def kEnd (k : Nat) : ByteArray := if k = 2 \/ k = 3 \/ k = 5 \/ k = 7 then ⟨#[35, 109, 101, 109, 98, 101, 114]⟩ else ⟨#[]⟩
def kT (k a b : Nat) : ByteArray := kPre k ++ letS a ++ kMid k ++ letS b ++ kEnd k
theorem letS_mod (n : Nat) : letS n = letS (n % 4) := by unfold letS; rw [Nat.mod_mod]
theorem kT_mod (k a b : Nat) : kT k a b = kT k (a % 4) (b % 4) := by unfold kT; rw [letS_mod a, letS_mod b]
theorem kT_fault0 : ∀ k, k < 9 -> ∀ a, a < 4 -> ∀ b, b < 4 -> faultS (ruleOfs krules) (⟨#[43]⟩ ++ kT k a b) = 0 /\ (⟨#[43]⟩ ++ kT k a b).size <= 100 := by decide +kernel
theorem kT_fault (k a b : Nat) (hk : k < 9) : faultS (ruleOfs krules) (⟨#[43]⟩ ++ kT k a b) = 0 /\ (⟨#[43]⟩ ++ kT k a b).size <= 100 := by
 rw [kT_mod]; exact kT_fault0 k hk _ (by omega) _ (by omega)
theorem plus_done (now : List ByteArray) (s : ByteArray) : doneS now (⟨#[43]⟩ ++ s) = withL now s true := by
 unfold doneS
 have e1 : (⟨#[43]⟩ ++ s : ByteArray).extract 1 (⟨#[43]⟩ ++ s : ByteArray).size = s := by
  refine ByteArray.ext (Array.ext' ?_)
  simp
  have h1 : ({ data := #[43] } : ByteArray).size = 1 := rfl
  rw [h1, List.take_of_length_le]
  rw [Array.length_toList]
  show s.size <= 1 + s.size - 1
  omega
 have e2 : byteAt (⟨#[43]⟩ ++ s) 0 = 43 := by
  unfold byteAt; simp
 rw [e1, e2]; rfl
theorem rem_nat (v : Nat) (k : Nat) : (v : Int).tmod k = ((v % k : Nat) : Int) := by
 rw [Int.tmod_eq_emod_of_nonneg (by omega)]; omega
theorem quo_nat (v : Nat) (k : Nat) : (v : Int).tdiv k = ((v / k : Nat) : Int) := by
 rw [Int.tdiv_eq_ediv_of_nonneg (by omega)]; omega
theorem letS_size (n : Nat) : (letS n).size = 1 := rfl
theorem wrap_small {n : Int} (h : 0 <= n) (h2 : n <= 1099511627776) : wrap64 n = n := by
 unfold wrap64; omega
theorem kTuple_k (c : Int) (v k : Nat) (w : World) (hp : Calls Tryz.prog 17 #[.int .i64 c, .int .i64 1099511627776] w fun e w' => e = .returned (.int .i64 (v : Nat)) /\ w' = w) (hk : k < 9) (hm : v % 9 = k) (hv : v <= 1099511627776) :
  Calls Tryz.prog 39 #[.int .i64 c] w fun e w' => e = .returned (.string (kT k (v / 16) (v / 64))) /\ Below w.heap.size w w' := by
 have q16 : (v : Int).tdiv 16 = ((v / 16 : Nat) : Int) := quo_nat v 16
 have q64 : (v : Int).tdiv 64 = ((v / 64 : Nat) : Int) := quo_nat v 64
 have r9 : (v : Int).tmod 9 = ((v % 9 : Nat) : Int) := rem_nat v 9
 have HA : Hid (∀ w1, Calls Tryz.prog 16 #[.int .i64 ((v / 16 : Nat) : Int)] w1 fun e w' => e = .returned (.string (letS (v / 16))) /\ Below w1.heap.size w1 w') := fun w1 => letter_any (v / 16) w1 (by omega)
 have HB : Hid (∀ w1, Calls Tryz.prog 16 #[.int .i64 ((v / 64 : Nat) : Int)] w1 fun e w' => e = .returned (.string (letS (v / 64))) /\ Below w1.heap.size w1 w') := fun w1 => letter_any (v / 64) w1 (by omega)
 have sa := letS_size (v / 16)
 have sb := letS_size (v / 64)
 have w16 : wrap64 ((v / 16 : Nat) : Int) = ((v / 16 : Nat) : Int) := wrap_small (by omega) (by omega)
 have w64 : wrap64 ((v / 64 : Nat) : Int) = ((v / 64 : Nat) : Int) := wrap_small (by omega) (by omega)
 have HT : Hid (kT k (v / 16) (v / 64) = kPre k ++ letS (v / 16) ++ kMid k ++ letS (v / 64) ++ kEnd k) := rfl
 rw [hm] at r9
 generalize kT k (v / 16) (v / 64) = T at *
 generalize letS (v / 16) = la at *
 generalize letS (v / 64) = lb at *
 generalize ((v / 16 : Nat) : Int) = n16 at *
 generalize ((v / 64 : Nat) : Int) = n64 at *
 clear hm
 have hcs : k = 0 \/ k = 1 \/ k = 2 \/ k = 3 \/ k = 4 \/ k = 5 \/ k = 6 \/ k = 7 \/ k = 8 := by omega
 clear hk
 rcases hcs with rfl | rfl | rfl | rfl | rfl | rfl | rfl | rfl | rfl
 all_goals
  go_enter Tryz.func39, Tryz.ntmps39
  go_wp2_with (first | (go_at_call 17; refine hp.mono ?_; rintro e w1 ⟨rfl, rfl⟩) | (go_at_call 16; refine (HA.out _).mono ?_; rintro e w2 ⟨rfl, hb2⟩; clear HA) | (go_at_call 16; refine (HB.out _).mono ?_; rintro e w3 ⟨rfl, hb3⟩))
  go_ret
  refine ⟨?_, hb2.trans (hb3.mono hb2.size)⟩
  rw [HT.out]
  first
  | rfl
  | (refine congrArg (fun s => Ending.returned (Value.string s)) ?_
     exact (ByteArray.append_empty ..).symm)
end Go.Proofs.YtalmoiogbdahcaaGreat
