import Derived.Test.YtalmoiogbdahcaaGreatYRefA
import Derived.Test.YtalmoiogbdahcaaGreatYLawB
import Derived.Lib.Strings
import Derived.Lib.Slices
import Derived.Lib.Walk
import Derived.Lib.Bytealg
namespace Go.Proofs.YtalmoiogbdahcaaGreat
set_option maxRecDepth 100000
set_option maxHeartbeats 8000000
open Go.RowKit
structure Rd where
 rest : ByteArray
 opn : Int
 failed : Bool
def RdAt (w : World) (r : Nat) (q : Rd) : Prop := w.heap[r]? = some (.cells [Value.string q.rest, .int .i64 q.opn, .bool q.failed].toArray 141 (0, 0))
theorem rd_cells {w : World} {r : Nat} {q : Rd} (h : RdAt w r q) : w.cell? ⟨r, 0, none⟩ = some (.string q.rest) /\ w.cell? ⟨r, 1, none⟩ = some (.int .i64 q.opn) /\ w.cell? ⟨r, 2, none⟩ = some (.bool q.failed) /\ w.frozen? ⟨r, 0, none⟩ = false /\ w.frozen? ⟨r, 1, none⟩ = false /\ w.frozen? ⟨r, 2, none⟩ = false :=
 ⟨row_cell h rfl, row_cell h rfl, row_cell h rfl, row_frozen h _, row_frozen h _, row_frozen h _⟩
theorem rd_rest {w : World} {r : Nat} {q : Rd} (h : RdAt w r q) (s : ByteArray) : RdAt (w.setCell ⟨r, 0, none⟩ (.string s)) r { q with rest := s } := row_set h 0 _
theorem rd_opn {w : World} {r : Nat} {q : Rd} (h : RdAt w r q) (n : Int) : RdAt (w.setCell ⟨r, 1, none⟩ (.int .i64 n)) r { q with opn := n } := row_set h 1 _
theorem rd_failed {w : World} {r : Nat} {q : Rd} (h : RdAt w r q) (b : Bool) : RdAt (w.setCell ⟨r, 2, none⟩ (.bool b)) r { q with failed := b } := row_set h 2 _
def Rd.fail (q : Rd) : Rd := { q with rest := { data := #[] }, failed := true }
def preB (s m : ByteArray) : Bool := decide (m.size <= s.size) && ((s.extract 0 m.size).toList == m.toList)
def Rd.sees (q : Rd) (m : ByteArray) : Rd := if preB q.rest m then { q with rest := q.rest.extract m.size q.rest.size } else q
def Rd.must (q : Rd) (m : ByteArray) : Rd := if preB q.rest m then q.sees m else q.fail
def Rd.ended (q : Rd) : Bool := decide (q.rest.size = 0) && !q.failed
theorem fail_any (r : Nat) (q : Rd) (w : World) (h : RdAt w r q) :
  Calls Tryz.prog 160 #[.pointer (some ⟨r, 0, none⟩)] w fun e w' => e = .returned (.tuple #[]) /\ RdAt w' r q.fail /\ w.grownBy w' (some r) := by
 obtain ⟨h0, h1, h2, f0, f1, f2⟩ := rd_cells h
 go_enter Tryz.func160, Tryz.ntmps160
 go_wp2
 go_end0
 exact ⟨rfl, rd_failed (rd_rest h _) _, kept_set (kept_set (kept_refl _ _) _ _) _ _⟩
theorem pre_true {s m : ByteArray} (h : preB s m = true) : m.size <= s.size /\ ((s.extract 0 m.size).toList == m.toList) = true := by
 unfold preB at h; simpa using h
theorem hasPrefix_any (s m : ByteArray) (w : World) :
  Calls Tryz.prog 193 #[.string s, .string m] w fun e w' => e = .returned (.bool (preB s m)) /\ w' = w := by
 by_cases h : m.size <= s.size
 ·have hp : preB s m = ((s.extract 0 m.size).toList == m.toList) := by unfold preB; rw [decide_eq_true h, Bool.true_and]
  rw [hp]
  clear hp
  go_enter Tryz.func193, Tryz.ntmps193
  go_wp2
  go_ret
  exact ⟨rfl, rfl⟩
 ·have hp : preB s m = false := by unfold preB; rw [decide_eq_false h, Bool.false_and]
  rw [hp]
  clear hp
  go_enter Tryz.func193, Tryz.ntmps193
  go_wp2
  go_ret
  exact ⟨rfl, rfl⟩
theorem sees_any (r : Nat) (q : Rd) (m : ByteArray) (w : World) (hRd : RdAt w r q) :
  Calls Tryz.prog 89 #[.pointer (some ⟨r, 0, none⟩), .string m] w fun e w' => e = .returned (.bool (preB q.rest m)) /\ RdAt w' r (q.sees m) /\ w.grownBy w' (some r) := by
 obtain ⟨h0, h1, h2, f0, f1, f2⟩ := rd_cells hRd
 have hp := fun w => hasPrefix_any q.rest m w
 unfold Rd.sees
 cases hb : preB q.rest m
 ·rw [hb] at hp
  go_enter Tryz.func89, Tryz.ntmps89
  go_wp2_with (first | (go_at_call 193; refine (hp _).mono ?_; rintro e w' ⟨rfl, rfl⟩) | go_in)
  go_ret
  exact ⟨rfl, rd_rest hRd _, kept_set (kept_refl _ _) _ _⟩
 ·rw [hb] at hp
  have hle := (pre_true hb).1
  go_enter Tryz.func89, Tryz.ntmps89
  go_wp2_with (first | (go_at_call 193; refine (hp _).mono ?_; rintro e w' ⟨rfl, rfl⟩) | go_in)
  go_ret
  exact ⟨rfl, rd_rest hRd _, kept_set (kept_refl _ _) _ _⟩
theorem kept_trans {a b c : World} {r : Nat} (h : a.grownBy b (some r)) (g : b.grownBy c (some r)) : a.grownBy c (some r) :=
 ⟨g.os.trans h.os, g.tape.trans h.tape, g.output.trans h.output, Nat.le_trans h.size g.size, fun k hk hne => (g.block k (Nat.lt_of_lt_of_le hk h.size) hne).trans (h.block k hk hne)⟩
theorem must_any (r : Nat) (q : Rd) (m : ByteArray) (w : World) (hRd : RdAt w r q) :
  Calls Tryz.prog 105 #[.pointer (some ⟨r, 0, none⟩), .string m] w fun e w' => e = .returned (.tuple #[]) /\ RdAt w' r (q.must m) /\ w.grownBy w' (some r) := by
 have hse := sees_any r q m w hRd
 unfold Rd.must
 cases hb : preB q.rest m
 ·rw [hb] at hse
  go_enter Tryz.func105, Tryz.ntmps105
  go_wp2_with (first | (go_at_call 89; refine hse.mono ?_; rintro e w1 ⟨rfl, hr1, hk1⟩) | (go_at_call 160; refine (fail_any r _ _ hr1).mono ?_; rintro e w2 ⟨rfl, hr2, hk2⟩))
  go_end0
  refine ⟨rfl, ?_, kept_trans hk1 hk2⟩
  have e : (q.sees m).fail = q.fail := by unfold Rd.sees; rw [hb]; rfl
  rw [e] at hr2
  exact hr2
 ·rw [hb] at hse
  go_enter Tryz.func105, Tryz.ntmps105
  go_wp2_with (go_at_call 89; refine hse.mono ?_; rintro e w1 ⟨rfl, hr1, hk1⟩)
  go_end0
  exact ⟨rfl, hr1, hk1⟩
theorem empty_is (s : ByteArray) (h : s.size = 0) : s.toList.isEmpty = true := by
 rw [Lib.toList_data, List.isEmpty_iff]; exact List.eq_nil_of_length_eq_zero (by simpa using h)
theorem empty_not (s : ByteArray) (h : 0 < s.size) : s.toList.isEmpty = false := by
 rw [Lib.toList_data, List.isEmpty_eq_false_iff]; intro e
 have h2 : s.data.toList.length = 0 := by rw [e]; rfl
 have h3 : s.data.toList.length = s.size := by simp
 omega
theorem ended_any (r : Nat) (q : Rd) (w : World) (hRd : RdAt w r q) :
  Calls Tryz.prog 91 #[.pointer (some ⟨r, 0, none⟩)] w fun e w' => e = .returned (.bool q.ended) /\ w' = w := by
 obtain ⟨h0, h1, h2, f0, f1, f2⟩ := rd_cells hRd
 unfold Rd.ended
 clear hRd
 obtain ⟨s, n, b⟩ := q
 dsimp only at h0 h1 h2 ⊢
 by_cases hz : s.size = 0
 ·have he := empty_is s hz
  rw [decide_eq_true hz, Bool.true_and]
  clear hz
  go_enter Tryz.func91, Tryz.ntmps91
  go_wp2
  go_ret
  exact ⟨rfl, rfl⟩
 ·have he := empty_not s (by omega)
  rw [decide_eq_false hz, Bool.false_and]
  clear hz
  go_enter Tryz.func91, Tryz.ntmps91
  go_wp2
  go_ret
  exact ⟨rfl, rfl⟩
theorem prefix_any (s m : ByteArray) (w : World) :
  Calls Tryz.prog 152 #[.string s, .string m] w fun e w' => e = .returned (.bool (preB s m)) /\ w' = w := by
 have hp := fun w => hasPrefix_any s m w
 go_enter Tryz.func152, Tryz.ntmps152
 go_wp2_with (go_at_call 193; refine (hp _).mono ?_; rintro e w' ⟨rfl, rfl⟩)
 go_ret
 exact ⟨rfl, rfl⟩
def errS : ByteArray := { data := #[239, 191, 189] }
def brokenB (c : Int) (s : ByteArray) : Bool := decide (c = 65533) && !preB s errS
theorem broken_any (c : Int) (s : ByteArray) (w : World) :
  Calls Tryz.prog 184 #[.int .i32 c, .string s] w fun e w' => e = .returned (.bool (brokenB c s)) /\ w' = w := by
 have hp := fun w => prefix_any s errS w
 unfold brokenB
 by_cases hc : c = 65533
 ·subst hc
  rw [decide_eq_true rfl, Bool.true_and]
  go_enter Tryz.func184, Tryz.ntmps184
  go_wp2_with (go_at_call 152; refine (hp _).mono ?_; rintro e w' ⟨rfl, rfl⟩)
  go_ret
  exact ⟨rfl, rfl⟩
 ·have hb : (c == 65533) = false := by simpa using hc
  rw [decide_eq_false hc, Bool.false_and]
  go_enter Tryz.func184, Tryz.ntmps184
  go_wp2
  go_ret
  exact ⟨rfl, rfl⟩
theorem sliteIndexByte_any (s : ByteArray) (c : Int) (w : World) :
  Calls Tryz.prog 236 #[.string s, .int .u8 c] w fun e w' => e = .returned (.int .i64 (Lib.indexByte s.data.toList c.toNat.toUInt8)) /\ w' = w := by
 go_enter Tryz.func236, Tryz.ntmps236
 go_wp2
 rw [run_callFunc_extern Tryz.func237 (by kernel_rfl) (by kernel_rfl) (by kernel_rfl) (e := Extern.BytealgIndexByte.indexByte) (by kernel_rfl), Lib.run_indexByteString]
 simp only [Result.andThen]
 rw [Oper.upon_value]
 go_wp2
 go_ret
 exact ⟨rfl, rfl⟩
theorem indexByte_any (s : ByteArray) (c : Int) (w : World) :
  Calls Tryz.prog 232 #[.string s, .int .u8 c] w fun e w' => e = .returned (.int .i64 (Lib.indexByte s.data.toList c.toNat.toUInt8)) /\ w' = w := by
 go_enter Tryz.func232, Tryz.ntmps232
 go_wp2_with (go_at_call 236; refine (sliteIndexByte_any _ _ _).mono ?_; rintro e w' ⟨rfl, rfl⟩)
 go_ret
 exact ⟨rfl, rfl⟩
end Go.Proofs.YtalmoiogbdahcaaGreat
