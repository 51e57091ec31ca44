import Derived.Test.YtalmoiogbdahcaaGreatXWrdE
import Derived.Test.YtalmoiogbdahcaaGreatXWrdJ
import Derived.Test.YtalmoiogbdahcaaGreatXLibC

/- Which texts the program takes for rules, and what of them. -/
namespace Go.Proofs.YtalmoiogbdahcaaGreat
open Go.RowKit

def eqB : ByteArray := { data := #[61] }
def ruleQ (s : ByteArray) : Rd := (rd0 s).head.must eqB
def ruleW (s : ByteArray) : WayT × Rd := wayG (oneF 5) (ruleQ s)
def ruleOk (s : ByteArray) : Bool := decide (s.size ≤ 200) && (ruleW s).2.ended
def zeroRule : List Value := [.string { data := #[] }, .string { data := #[] }, .int .i64 0, .string { data := #[] }, .string { data := #[] }, .slice none 0 0]
def ruleV (s : ByteArray) (is : Int) (a b : ByteArray) (x : Option Addr) (n c : Nat) : Value := .agg #[.string (headKind (rd0 s)), .string (headRel (rd0 s)), .int .i64 is, .string a, .string b, .slice x n c]
/-- what reading a rule leaves. -/
def RPost (s : ByteArray) (w : World) (e : Ending) (w' : World) : Prop :=
  Below w.heap.size w w' ∧ ((ruleOk s = false ∧ e = .returned (.tuple #[.agg zeroRule.toArray, .bool false])) ∨
    (ruleOk s = true ∧ ∃ is a b x n c, e = .returned (.tuple #[ruleV s is a b x n c, .bool true]) ∧ WayAt w' (w.heap.size ≤ ·) (ruleW s).1 (.agg #[.int .i64 is, .string a, .string b, .slice x n c])))
theorem relation_opn' (q : Rd) : q.relation.opn = q.opn := relation_opn q
theorem head_opn (q : Rd) : q.head.opn = q.opn := by
  unfold Rd.head; rw [relation_opn, must_opn, name_opn]
theorem set6 {B : Nat} {w0 w : World} (h : Below B w0 w) {b : Nat} (hb : B ≤ b) (c0 c1 c2 c3 c4 c5 : Value) : Below B w0 ((((((w.setCell ⟨b, 0, none⟩ c0).setCell ⟨b, 1, none⟩ c1).setCell ⟨b, 2, none⟩ c2).setCell ⟨b, 3, none⟩ c3).setCell ⟨b, 4, none⟩ c4).setCell ⟨b, 5, none⟩ c5) :=
  (((((h.setCell hb _).setCell hb _).setCell hb _).setCell hb _).setCell hb _).setCell hb _
theorem other6 {w : World} {b g : Nat} (hb : ¬ g = b) (c0 c1 c2 c3 c4 c5 : Value) : ((((((w.setCell ⟨b, 0, none⟩ c0).setCell ⟨b, 1, none⟩ c1).setCell ⟨b, 2, none⟩ c2).setCell ⟨b, 3, none⟩ c3).setCell ⟨b, 4, none⟩ c4).setCell ⟨b, 5, none⟩ c5).heap[g]? = w.heap[g]? := by
  rw [Below.heap_setCell _ _ _ _ hb, Below.heap_setCell _ _ _ _ hb, Below.heap_setCell _ _ _ _ hb, Below.heap_setCell _ _ _ _ hb, Below.heap_setCell _ _ _ _ hb, Below.heap_setCell _ _ _ _ hb]

set_option maxRecDepth 100000 in
set_option maxHeartbeats 1600000 in
theorem readRule_long (s : ByteArray) (w : World) (hl : 200 < s.size) : Calls Tryz.prog 56 #[.string s] w (RPost s w) := by
  have HO : Hid (ruleOk s = false) := by show _ = _; unfold ruleOk; rw [decide_eq_false (by omega)]; rfl
  have hl1 : decide ((s.size : Int) > 200) = true := by simp; omega
  go_enter Tryz.func56, Tryz.ntmps56
  go_wp2
  refine bodyPost_ret (v := .tuple #[.agg zeroRule.toArray, .bool false]) (by simp [results, Tryz.results56, go_sem, zeroRule]) rfl ⟨(Below.refl _ _).alloc (Nat.le_refl _) _, Or.inl ⟨HO.out, rfl⟩⟩

set_option maxRecDepth 100000 in
set_option maxHeartbeats 3200000 in
theorem readRule_short (s : ByteArray) (w : World) (hl : s.size ≤ 200) : Calls Tryz.prog 56 #[.string s] w (RPost s w) := by
  have hl1 : decide ((s.size : Int) > 200) = false := by simp; omega
  have s1 := head_size (rd0 s)
  have s2 := must_size (rd0 s).head eqB
  have S0 : Hid ((rd0 s).rest.size ≤ maxLen) := by show s.size ≤ maxLen; unfold maxLen; omega
  have S2 : Hid ((ruleQ s).rest.size ≤ 200) := by show ((rd0 s).head.must eqB).rest.size ≤ 200; have : (rd0 s).rest.size = s.size := rfl; omega
  have SO : Hid ((ruleQ s).opn = 0) := by show ((rd0 s).head.must eqB).opn = 0; rw [must_opn, head_opn]; rfl
  have hcl : ∀ w1, Calls Tryz.prog 102 #[.string s] w1 fun e w' => e = .returned (.string s) ∧ Below w1.heap.size w1 w' := fun w1 => stringsClone_any s w1 (by omega)
  have hhd : ∀ r w1, RdAt w1 r (rd0 s) → Calls Tryz.prog 104 #[.pointer (some ⟨r, 0, none⟩)] w1 fun e w' => e = .returned (.agg #[.string (headKind (rd0 s)), .string (headRel (rd0 s))]) ∧ RdAt w' r (rd0 s).head ∧ w1.grownBy w' (some r) := fun r w1 h => headRd_any r (rd0 s) w1 h S0.out
  have hmu : ∀ r w1, RdAt w1 r (rd0 s).head → Calls Tryz.prog 105 #[.pointer (some ⟨r, 0, none⟩), .string { data := #[61] }] w1 fun e w' => e = .returned (.tuple #[]) ∧ RdAt w' r (ruleQ s) ∧ w1.grownBy w' (some r) := fun r w1 h => must_any r (rd0 s).head eqB w1 h
  have hwy : ∀ r w1, RdAt w1 r (ruleQ s) → Calls Tryz.prog 106 #[.pointer (some ⟨r, 0, none⟩)] w1 (WRes w1 r (ruleW s)) := fun r w1 h => way_all 5 r (ruleQ s) w1 h S2.out (by rw [SO.out]; decide) (by rw [SO.out]; rfl)
  have hen := fun r w h => ended_any r (ruleW s).2 w h
  have HK : Hid (ruleOk s = (ruleW s).2.ended) := by show _ = _; unfold ruleOk; rw [decide_eq_true hl, Bool.true_and]
  rw [← HK.out] at hen
  clear s1 s2
  have HP : Hid (∀ e w', RPost s w e w' ↔ (Below w.heap.size w w' ∧ ((ruleOk s = false ∧ e = .returned (.tuple #[.agg zeroRule.toArray, .bool false])) ∨ (ruleOk s = true ∧ ∃ is a b x n c, e = .returned (.tuple #[.agg #[.string (headKind (rd0 s)), .string (headRel (rd0 s)), .int .i64 is, .string a, .string b, .slice x n c], .bool true]) ∧ WayAt w' (w.heap.size ≤ ·) (ruleW s).1 (.agg #[.int .i64 is, .string a, .string b, .slice x n c])))) ) := fun e w' => Iff.rfl
  generalize RPost s w = post at *
  generalize headKind (rd0 s) = hk at *
  generalize headRel (rd0 s) = hr at *
  generalize ruleW s = p at *
  generalize ruleOk s = ok at *
  cases ok
  · go_enter Tryz.func56, Tryz.ntmps56
    go_wp2_with (first | (go_at_call 102; refine (hcl _).mono ?_; rintro e w1 ⟨rfl, hb1⟩; have HR1 : Hid (w1.heap[w.heap.size]? = _) := (hb1.block w.heap.size (by simp)).trans (alloc_new w zeroRule _)) | (go_at_call 104; refine (hhd _ _ (rd_lit w1 s)).mono ?_; rintro e w2 ⟨rfl, hr2, hk2⟩; have HR2 : Hid (w2.heap[w.heap.size]? = _) := kblock hk2 (alloc_row HR1.out _) (by have := row_lt HR1.out; omega)) | (go_at_call 105; refine (hmu _ _ (rd_alloc hr2 _)).mono ?_; rintro e w3 ⟨rfl, hr3, hk3⟩; have HR3 : Hid (w3.heap[w.heap.size]? = _) := kblock hk3 (alloc_row HR2.out _) (by have := row_lt HR1.out; omega)) | (go_at_call 106; refine (hwy _ _ hr3).mono ?_; rintro e w4 ⟨v, rfl, hv4, hr4, hk4⟩; obtain ⟨vi, va, vb, vx, vn, vc, rfl⟩ := hv4.agg; have HR4 : Hid (w4.heap[w.heap.size]? = _) := kblock hk4 HR3.out (by have := row_lt HR1.out; omega); have HH4 : Hid (w4.heap[w2.heap.size]? = _) := kblock hk4 (kblock hk3 (alloc_new w2 [.string hk, .string hr] _) (by have := row_lt hr2; omega)) (by have := row_lt hr2; omega); have hh0 := row_cell HH4.out (j := 0) rfl; have hh1 := row_cell HH4.out (j := 1) rfl; have hy0 : w2.heap.size < w4.heap.size := row_lt HH4.out; have hy1 : ¬ w2.heap.size = w4.heap.size := (by omega); have hy2 : ¬ w2.heap.size = w.heap.size := (by have := row_lt HR2.out; omega)) | (go_at_call 91; refine (hen _ _ (rd_alloc hr4 _)).mono ?_; rintro e w5 ⟨rfl, hw5⟩; subst w5; have hz0 : w.heap.size < w4.heap.size := row_lt HR4.out; have hz2 : ¬ w.heap.size = w4.heap.size := (by omega); have hc0 := row_cell HR4.out (j := 0) rfl; have hf0 := row_frozen HR4.out 0; have hc1 := row_cell HR4.out (j := 1) rfl; have hf1 := row_frozen HR4.out 1; have hc2 := row_cell HR4.out (j := 2) rfl; have hf2 := row_frozen HR4.out 2; have hc3 := row_cell HR4.out (j := 3) rfl; have hf3 := row_frozen HR4.out 3; have hc4 := row_cell HR4.out (j := 4) rfl; have hf4 := row_frozen HR4.out 4; have hc5 := row_cell HR4.out (j := 5) rfl; have hf5 := row_frozen HR4.out 5))
    have hB4 : Below w.heap.size w w4 := below_kept (below_kept ((below_kept ((Below.trans ((Below.refl w.heap.size w).alloc (Nat.le_refl _) _) (hb1.mono (by simp))).alloc (by have := row_lt HR1.out; omega) _) hk2 (by simp; have := row_lt HR1.out; omega) (by have := row_lt HR1.out; omega)).alloc (by have := row_lt HR2.out; omega) _) hk3 (by simp; have := row_lt HR2.out; omega) (by have := row_lt HR1.out; omega)) hk4 (by have := row_lt HR3.out; omega) (by have := row_lt HR1.out; omega)
    refine bodyPost_ret (v := .tuple #[.agg zeroRule.toArray, .bool false]) (by simp [results, Tryz.results56, go_sem, zeroRule, hc0, hc1, hc2, hc3, hc4, hc5, hz0]) rfl ((HP.out _ _).2 ⟨(set6 hB4 (Nat.le_refl _) _ _ _ _ _ _).alloc (by simp; omega) _, Or.inl ⟨trivial, rfl⟩⟩)
  · go_enter Tryz.func56, Tryz.ntmps56
    go_wp2_with (first | (go_at_call 102; refine (hcl _).mono ?_; rintro e w1 ⟨rfl, hb1⟩; have HR1 : Hid (w1.heap[w.heap.size]? = _) := (hb1.block w.heap.size (by simp)).trans (alloc_new w zeroRule _)) | (go_at_call 104; refine (hhd _ _ (rd_lit w1 s)).mono ?_; rintro e w2 ⟨rfl, hr2, hk2⟩; have HR2 : Hid (w2.heap[w.heap.size]? = _) := kblock hk2 (alloc_row HR1.out _) (by have := row_lt HR1.out; omega)) | (go_at_call 105; refine (hmu _ _ (rd_alloc hr2 _)).mono ?_; rintro e w3 ⟨rfl, hr3, hk3⟩; have HR3 : Hid (w3.heap[w.heap.size]? = _) := kblock hk3 (alloc_row HR2.out _) (by have := row_lt HR1.out; omega)) | (go_at_call 106; refine (hwy _ _ hr3).mono ?_; rintro e w4 ⟨v, rfl, hv4, hr4, hk4⟩; obtain ⟨vi, va, vb, vx, vn, vc, rfl⟩ := hv4.agg; have HR4 : Hid (w4.heap[w.heap.size]? = _) := kblock hk4 HR3.out (by have := row_lt HR1.out; omega); have HH4 : Hid (w4.heap[w2.heap.size]? = _) := kblock hk4 (kblock hk3 (alloc_new w2 [.string hk, .string hr] _) (by have := row_lt hr2; omega)) (by have := row_lt hr2; omega); have hh0 := row_cell HH4.out (j := 0) rfl; have hh1 := row_cell HH4.out (j := 1) rfl; have hy0 : w2.heap.size < w4.heap.size := row_lt HH4.out; have hy1 : ¬ w2.heap.size = w4.heap.size := (by omega); have hy2 : ¬ w2.heap.size = w.heap.size := (by have := row_lt HR2.out; omega)) | (go_at_call 91; refine (hen _ _ (rd_alloc hr4 _)).mono ?_; rintro e w5 ⟨rfl, hw5⟩; subst w5; have hz0 : w.heap.size < w4.heap.size := row_lt HR4.out; have hz2 : ¬ w.heap.size = w4.heap.size := (by omega); have hc0 := row_cell HR4.out (j := 0) rfl; have hf0 := row_frozen HR4.out 0; have hc1 := row_cell HR4.out (j := 1) rfl; have hf1 := row_frozen HR4.out 1; have hc2 := row_cell HR4.out (j := 2) rfl; have hf2 := row_frozen HR4.out 2; have hc3 := row_cell HR4.out (j := 3) rfl; have hf3 := row_frozen HR4.out 3; have hc4 := row_cell HR4.out (j := 4) rfl; have hf4 := row_frozen HR4.out 4; have hc5 := row_cell HR4.out (j := 5) rfl; have hf5 := row_frozen HR4.out 5))
    have hB4 : Below w.heap.size w w4 := below_kept (below_kept ((below_kept ((Below.trans ((Below.refl w.heap.size w).alloc (Nat.le_refl _) _) (hb1.mono (by simp))).alloc (by have := row_lt HR1.out; omega) _) hk2 (by simp; have := row_lt HR1.out; omega) (by have := row_lt HR1.out; omega)).alloc (by have := row_lt HR2.out; omega) _) hk3 (by simp; have := row_lt HR2.out; omega) (by have := row_lt HR1.out; omega)) hk4 (by have := row_lt HR3.out; omega) (by have := row_lt HR1.out; omega)
    refine bodyPost_ret (v := .tuple #[.agg #[.string hk, .string hr, .int .i64 vi, .string va, .string vb, .slice vx vn vc], .bool true]) (by simp [results, Tryz.results56, go_sem, hc0, hc1, hc2, hc3, hc4, hc5, hz0]) rfl ((HP.out _ _).2 ⟨(set6 hB4 (Nat.le_refl _) _ _ _ _ _ _).alloc (by simp; omega) _, Or.inr ⟨trivial, vi, va, vb, vx, vn, vc, rfl, ?_⟩⟩)
    have hR3 := row_lt HR3.out
    refine hv4.move fun g hg hlt => ?_
    have hg' : w3.heap.size ≤ g := hg
    refine ⟨by show w.heap.size ≤ g; omega, ?_⟩
    rw [Below.heap_alloc _ _ _ (by simpa [World.setCell] using hlt), other6 (by omega)]

theorem readRule_any (s : ByteArray) (w : World) : Calls Tryz.prog 56 #[.string s] w (RPost s w) := by
  rcases Nat.lt_or_ge 200 s.size with h | h
  · exact readRule_long s w h
  · exact readRule_short s w h

end Go.Proofs.YtalmoiogbdahcaaGreat
