import Derived.Test.YtalmoiogbdahcaaGreatYRefA
import Derived.Test.YtalmoiogbdahcaaGreatYWrdC
import Derived.Test.YtalmoiogbdahcaaGreatYWrdJ
import Derived.Test.YtalmoiogbdahcaaGreatYLibC
namespace Go.Proofs.YtalmoiogbdahcaaGreat
set_option maxRecDepth 100000
set_option maxHeartbeats 8000000
open Go.RowKit
def eqB : ByteArray := { data := #[61] }
def ruleQ (s : ByteArray) : Rd := (rd0 s).head.must eqB
def ruleW (s : ByteArray) : WayT × Rd := wayG (oneF 5) (ruleQ s)
def ruleOk (s : ByteArray) : Bool := decide (s.size <= 200) && (ruleW s).2.ended
def zeroRule : List Value := [.string { data := #[] }, .string { data := #[] }, .int .i64 0, .string { data := #[] }, .string { data := #[] }, .slice none 0 0]
def ruleV (s : ByteArray) (is : Int) (a b : ByteArray) (x : Option Addr) (n c : Nat) : Value := .agg #[.string (headKind (rd0 s)), .string (headRel (rd0 s)), .int .i64 is, .string a, .string b, .slice x n c]
def RPost (s : ByteArray) (w : World) (e : Ending) (w' : World) : Prop :=
 Below w.heap.size w w' /\ ((ruleOk s = false /\ e = .returned (.tuple #[.agg zeroRule.toArray, .bool false])) \/
  (ruleOk s = true /\ ∃ is a b x n c, e = .returned (.tuple #[ruleV s is a b x n c, .bool true]) /\ WayAt w' (w.heap.size <= ·) (ruleW s).1 (.agg #[.int .i64 is, .string a, .string b, .slice x n c])))
theorem head_opn (q : Rd) : q.head.opn = q.opn := by
 unfold Rd.head; rw [relation_opn, must_opn, name_opn]
theorem set6 {B : Nat} {w0 w : World} (h : Below B w0 w) {b : Nat} (hb : B <= b) (c0 c1 c2 c3 c4 c5 : Value) : Below B w0 ((((((w.setCell ⟨b, 0, none⟩ c0).setCell ⟨b, 1, none⟩ c1).setCell ⟨b, 2, none⟩ c2).setCell ⟨b, 3, none⟩ c3).setCell ⟨b, 4, none⟩ c4).setCell ⟨b, 5, none⟩ c5) :=
 (((((h.setCell hb _).setCell hb _).setCell hb _).setCell hb _).setCell hb _).setCell hb _
theorem other6 {w : World} {b g : Nat} (hb : ¬ g = b) (c0 c1 c2 c3 c4 c5 : Value) : ((((((w.setCell ⟨b, 0, none⟩ c0).setCell ⟨b, 1, none⟩ c1).setCell ⟨b, 2, none⟩ c2).setCell ⟨b, 3, none⟩ c3).setCell ⟨b, 4, none⟩ c4).setCell ⟨b, 5, none⟩ c5).heap[g]? = w.heap[g]? := by
 rw [Below.heap_setCell _ _ _ _ hb, Below.heap_setCell _ _ _ _ hb, Below.heap_setCell _ _ _ _ hb, Below.heap_setCell _ _ _ _ hb, Below.heap_setCell _ _ _ _ hb, Below.heap_setCell _ _ _ _ hb]
theorem readRule_long (s : ByteArray) (w : World) (hl : 200 < s.size) : Calls Tryz.prog 56 #[.string s] w (RPost s w) := by
 have HO : Hid (ruleOk s = false) := by show _ = _; unfold ruleOk; rw [decide_eq_false (by omega)]; rfl
 have hl1 : decide ((s.size : Int) > 200) = true := by simp; omega
 go_enter Tryz.func56, Tryz.ntmps56
 go_wp2
 refine bodyPost_ret (v := .tuple #[.agg zeroRule.toArray, .bool false]) (by simp [results, Tryz.results56, go_sem, zeroRule]) rfl ⟨(Below.refl _ _).alloc (Nat.le_refl _) _, Or.inl ⟨HO.out, rfl⟩⟩
theorem readRule_short (s : ByteArray) (w : World) (hl : s.size <= 200) : Calls Tryz.prog 56 #[.string s] w (RPost s w) := by
 have hl1 : decide ((s.size : Int) > 200) = false := by simp; omega
 have s1 := head_size (rd0 s)
 have s2 := must_size (rd0 s).head eqB
 have S0 : Hid ((rd0 s).rest.size <= maxLen) := by show s.size <= maxLen; unfold maxLen; omega
 have S2 : Hid ((ruleQ s).rest.size <= 200) := by show ((rd0 s).head.must eqB).rest.size <= 200; have : (rd0 s).rest.size = s.size := rfl; omega
 have SO : Hid ((ruleQ s).opn = 0) := by show ((rd0 s).head.must eqB).opn = 0; rw [must_opn, head_opn]; rfl
 have hcl : ∀ w1, Calls Tryz.prog 102 #[.string s] w1 fun e w' => e = .returned (.string s) /\ Below w1.heap.size w1 w' := fun w1 => stringsClone_any s w1 (by omega)
 have hhd : ∀ r w1, RdAt w1 r (rd0 s) -> Calls Tryz.prog 104 #[.pointer (some ⟨r, 0, none⟩)] w1 fun e w' => e = .returned (.agg #[.string (headKind (rd0 s)), .string (headRel (rd0 s))]) /\ RdAt w' r (rd0 s).head /\ w1.grownBy w' (some r) := fun r w1 h => headRd_any r (rd0 s) w1 h S0.out
 have hmu : ∀ r w1, RdAt w1 r (rd0 s).head -> Calls Tryz.prog 105 #[.pointer (some ⟨r, 0, none⟩), .string { data := #[61] }] w1 fun e w' => e = .returned (.tuple #[]) /\ RdAt w' r (ruleQ s) /\ w1.grownBy w' (some r) := fun r w1 h => must_any r (rd0 s).head eqB w1 h
 have hwy : ∀ r w1, RdAt w1 r (ruleQ s) -> Calls Tryz.prog 106 #[.pointer (some ⟨r, 0, none⟩)] w1 (WRes w1 r (ruleW s)) := fun r w1 h => way_all 5 r (ruleQ s) w1 h S2.out (by rw [SO.out]; decide) (by rw [SO.out]; rfl)
 have hen := fun r w h => ended_any r (ruleW s).2 w h
 have HK : Hid (ruleOk s = (ruleW s).2.ended) := by show _ = _; unfold ruleOk; rw [decide_eq_true hl, Bool.true_and]
 rw [← HK.out] at hen
 clear s1 s2
 have HP : Hid (∀ e w', RPost s w e w' ↔ (Below w.heap.size w w' /\ ((ruleOk s = false /\ e = .returned (.tuple #[.agg zeroRule.toArray, .bool false])) \/ (ruleOk s = true /\ ∃ is a b x n c, e = .returned (.tuple #[.agg #[.string (headKind (rd0 s)), .string (headRel (rd0 s)), .int .i64 is, .string a, .string b, .slice x n c], .bool true]) /\ WayAt w' (w.heap.size <= ·) (ruleW s).1 (.agg #[.int .i64 is, .string a, .string b, .slice x n c])))) ) := fun e w' => Iff.rfl
 generalize RPost s w = post at *
 generalize headKind (rd0 s) = hk at *
 generalize headRel (rd0 s) = hr at *
 generalize ruleW s = p at *
 generalize ruleOk s = ok at *
 cases ok
 ·go_enter Tryz.func56, Tryz.ntmps56
  go_wp2_with (first | (go_at_call 102; refine (hcl _).mono ?_; rintro e w1 ⟨rfl, hb1⟩; have HR1 : Hid (w1.heap[w.heap.size]? = _) := (hb1.block w.heap.size (by simp)).trans (alloc_new w zeroRule _)) | (go_at_call 104; refine (hhd _ _ (rd_lit w1 s)).mono ?_; rintro e w2 ⟨rfl, hr2, hk2⟩; have HR2 : Hid (w2.heap[w.heap.size]? = _) := kblock hk2 (alloc_row HR1.out _) (by have := row_lt HR1.out; omega)) | (go_at_call 105; refine (hmu _ _ (rd_alloc hr2 _)).mono ?_; rintro e w3 ⟨rfl, hr3, hk3⟩; have HR3 : Hid (w3.heap[w.heap.size]? = _) := kblock hk3 (alloc_row HR2.out _) (by have := row_lt HR1.out; omega)) | (go_at_call 106; refine (hwy _ _ hr3).mono ?_; rintro e w4 ⟨v, rfl, hv4, hr4, hk4⟩; obtain ⟨vi, va, vb, vx, vn, vc, rfl⟩ := hv4.agg; have HR4 : Hid (w4.heap[w.heap.size]? = _) := kblock hk4 HR3.out (by have := row_lt HR1.out; omega); have HH4 : Hid (w4.heap[w2.heap.size]? = _) := kblock hk4 (kblock hk3 (alloc_new w2 [.string hk, .string hr] _) (by have := row_lt hr2; omega)) (by have := row_lt hr2; omega); have hh0 := row_cell HH4.out (j := 0) rfl; have hh1 := row_cell HH4.out (j := 1) rfl; have hy0 : w2.heap.size < w4.heap.size := row_lt HH4.out; have hy1 : ¬ w2.heap.size = w4.heap.size := (by omega); have hy2 : ¬ w2.heap.size = w.heap.size := (by have := row_lt HR2.out; omega)) | (go_at_call 91; refine (hen _ _ (rd_alloc hr4 _)).mono ?_; rintro e w5 ⟨rfl, hw5⟩; subst w5; have hz0 : w.heap.size < w4.heap.size := row_lt HR4.out; have hz2 : ¬ w.heap.size = w4.heap.size := (by omega); have hc0 := row_cell HR4.out (j := 0) rfl; have hf0 := row_frozen HR4.out 0; have hc1 := row_cell HR4.out (j := 1) rfl; have hf1 := row_frozen HR4.out 1; have hc2 := row_cell HR4.out (j := 2) rfl; have hf2 := row_frozen HR4.out 2; have hc3 := row_cell HR4.out (j := 3) rfl; have hf3 := row_frozen HR4.out 3; have hc4 := row_cell HR4.out (j := 4) rfl; have hf4 := row_frozen HR4.out 4; have hc5 := row_cell HR4.out (j := 5) rfl; have hf5 := row_frozen HR4.out 5))
  have hB4 : Below w.heap.size w w4 := below_kept (below_kept ((below_kept ((Below.trans ((Below.refl w.heap.size w).alloc (Nat.le_refl _) _) (hb1.mono (by simp))).alloc (by have := row_lt HR1.out; omega) _) hk2 (by simp; have := row_lt HR1.out; omega) (by have := row_lt HR1.out; omega)).alloc (by have := row_lt HR2.out; omega) _) hk3 (by simp; have := row_lt HR2.out; omega) (by have := row_lt HR1.out; omega)) hk4 (by have := row_lt HR3.out; omega) (by have := row_lt HR1.out; omega)
  refine bodyPost_ret (v := .tuple #[.agg zeroRule.toArray, .bool false]) (by simp [results, Tryz.results56, go_sem, zeroRule, hc0, hc1, hc2, hc3, hc4, hc5, hz0]) rfl ((HP.out _ _).2 ⟨(set6 hB4 (Nat.le_refl _) _ _ _ _ _ _).alloc (by simp; omega) _, Or.inl ⟨trivial, rfl⟩⟩)
 ·go_enter Tryz.func56, Tryz.ntmps56
  go_wp2_with (first | (go_at_call 102; refine (hcl _).mono ?_; rintro e w1 ⟨rfl, hb1⟩; have HR1 : Hid (w1.heap[w.heap.size]? = _) := (hb1.block w.heap.size (by simp)).trans (alloc_new w zeroRule _)) | (go_at_call 104; refine (hhd _ _ (rd_lit w1 s)).mono ?_; rintro e w2 ⟨rfl, hr2, hk2⟩; have HR2 : Hid (w2.heap[w.heap.size]? = _) := kblock hk2 (alloc_row HR1.out _) (by have := row_lt HR1.out; omega)) | (go_at_call 105; refine (hmu _ _ (rd_alloc hr2 _)).mono ?_; rintro e w3 ⟨rfl, hr3, hk3⟩; have HR3 : Hid (w3.heap[w.heap.size]? = _) := kblock hk3 (alloc_row HR2.out _) (by have := row_lt HR1.out; omega)) | (go_at_call 106; refine (hwy _ _ hr3).mono ?_; rintro e w4 ⟨v, rfl, hv4, hr4, hk4⟩; obtain ⟨vi, va, vb, vx, vn, vc, rfl⟩ := hv4.agg; have HR4 : Hid (w4.heap[w.heap.size]? = _) := kblock hk4 HR3.out (by have := row_lt HR1.out; omega); have HH4 : Hid (w4.heap[w2.heap.size]? = _) := kblock hk4 (kblock hk3 (alloc_new w2 [.string hk, .string hr] _) (by have := row_lt hr2; omega)) (by have := row_lt hr2; omega); have hh0 := row_cell HH4.out (j := 0) rfl; have hh1 := row_cell HH4.out (j := 1) rfl; have hy0 : w2.heap.size < w4.heap.size := row_lt HH4.out; have hy1 : ¬ w2.heap.size = w4.heap.size := (by omega); have hy2 : ¬ w2.heap.size = w.heap.size := (by have := row_lt HR2.out; omega)) | (go_at_call 91; refine (hen _ _ (rd_alloc hr4 _)).mono ?_; rintro e w5 ⟨rfl, hw5⟩; subst w5; have hz0 : w.heap.size < w4.heap.size := row_lt HR4.out; have hz2 : ¬ w.heap.size = w4.heap.size := (by omega); have hc0 := row_cell HR4.out (j := 0) rfl; have hf0 := row_frozen HR4.out 0; have hc1 := row_cell HR4.out (j := 1) rfl; have hf1 := row_frozen HR4.out 1; have hc2 := row_cell HR4.out (j := 2) rfl; have hf2 := row_frozen HR4.out 2; have hc3 := row_cell HR4.out (j := 3) rfl; have hf3 := row_frozen HR4.out 3; have hc4 := row_cell HR4.out (j := 4) rfl; have hf4 := row_frozen HR4.out 4; have hc5 := row_cell HR4.out (j := 5) rfl; have hf5 := row_frozen HR4.out 5))
  have hB4 : Below w.heap.size w w4 := below_kept (below_kept ((below_kept ((Below.trans ((Below.refl w.heap.size w).alloc (Nat.le_refl _) _) (hb1.mono (by simp))).alloc (by have := row_lt HR1.out; omega) _) hk2 (by simp; have := row_lt HR1.out; omega) (by have := row_lt HR1.out; omega)).alloc (by have := row_lt HR2.out; omega) _) hk3 (by simp; have := row_lt HR2.out; omega) (by have := row_lt HR1.out; omega)) hk4 (by have := row_lt HR3.out; omega) (by have := row_lt HR1.out; omega)
  refine bodyPost_ret (v := .tuple #[.agg #[.string hk, .string hr, .int .i64 vi, .string va, .string vb, .slice vx vn vc], .bool true]) (by simp [results, Tryz.results56, go_sem, hc0, hc1, hc2, hc3, hc4, hc5, hz0]) rfl ((HP.out _ _).2 ⟨(set6 hB4 (Nat.le_refl _) _ _ _ _ _ _).alloc (by simp; omega) _, Or.inr ⟨trivial, vi, va, vb, vx, vn, vc, rfl, ?_⟩⟩)
  have hR3 := row_lt HR3.out
  refine hv4.move fun g hg hlt => ?_
  have hg' : w3.heap.size <= g := hg
  refine ⟨by show w.heap.size <= g; omega, ?_⟩
  rw [Below.heap_alloc _ _ _ (by simpa [World.setCell] using hlt), other6 (by omega)]
theorem readRule_any (s : ByteArray) (w : World) : Calls Tryz.prog 56 #[.string s] w (RPost s w) := by
 rcases Nat.lt_or_ge 200 s.size with h | h
 ·exact readRule_long s w h
 ·exact readRule_short s w h
mutual
def lvW : WayT -> Nat
 | .mk is _ _ parts => if isLeaf is then 1 else lvL parts
def lvL : List WayT -> Nat
 | [] => 0
 | t :: l => lvW t + lvL l
end
mutual
def relsW : WayT -> List ByteArray
 | .mk is a b parts => if isLeaf is then [a, b] else relsL parts
def relsL : List WayT -> List ByteArray
 | [] => []
 | t :: l => relsW t ++ relsL l
end
theorem leafW_len (ts : List (Nod × Nod)) (x : Nod) (is : Int) (a b : ByteArray) : (leafW ts x is a b).length <= ts.length + 1 := by
 have h : ∀ y, (subsOf ts y).length <= ts.length := fun y => by
  unfold subsOf; rw [List.length_map]; exact List.length_filter_le _ _
 unfold leafW
 split
 ·have := h x; omega
 ·split
  ·simp
  ·rw [List.length_map]
   have h1 := List.length_filter_le (fun y : Nod => y.isTh) (subsOf ts (x.to a))
   have := h (x.to a); omega
mutual
theorem namedW_len (ts : List (Nod × Nod)) (x : Nod) : (t : WayT) -> (namedW ts x t).length <= lvW t * (ts.length + 1)
 | .mk is a b parts => by
  rw [namedW, lvW]
  by_cases h : isLeaf is = true
  ·rw [if_pos h, if_pos h, Nat.one_mul]; exact leafW_len ts x is a b
  ·rw [if_neg h, if_neg h]; exact namedL_len ts x parts
theorem namedL_len (ts : List (Nod × Nod)) (x : Nod) : (l : List WayT) -> (namedL ts x l).length <= lvL l * (ts.length + 1)
 | [] => by rw [namedL]; simp
 | t :: l => by
  rw [namedL, lvL, List.length_append, Nat.add_mul]
  have h1 := namedW_len ts x t
  have h2 := namedL_len ts x l
  omega
end
mutual
theorem relsW_len : (t : WayT) -> (relsW t).length <= 2 * lvW t
 | .mk is a b parts => by
  rw [relsW, lvW]
  by_cases h : isLeaf is = true
  ·rw [if_pos h, if_pos h]; simp
  ·rw [if_neg h, if_neg h]; exact relsL_len parts
theorem relsL_len : (l : List WayT) -> (relsL l).length <= 2 * lvL l
 | [] => by rw [relsL]; simp
 | t :: l => by
  rw [relsL, lvL, List.length_append]
  have h1 := relsW_len t
  have h2 := relsL_len l
  omega
end
theorem lvL_append (l : List WayT) (t : WayT) : lvL (l ++ [t]) = lvL l + lvW t := by
 induction l with
 | nil => simp [lvL]
 | cons a l ih => rw [List.cons_append, lvL, lvL, ih]; omega
theorem relsL_append (l : List WayT) (t : WayT) : relsL (l ++ [t]) = relsL l ++ relsW t := by
 induction l with
 | nil => simp [relsL]
 | cons a l ih => rw [List.cons_append, relsL, relsL, ih, List.append_assoc]
theorem join_lv {is : Int} (h : isLeaf is = false) (ts : List WayT) : lvW (joinW is ts) <= lvL ts := by
 unfold joinW
 split
 ·simp [lvL]
 ·rw [lvW, if_neg (by rw [h]; decide)]; exact Nat.le_refl _
theorem join_rels {is : Int} (h : isLeaf is = false) (ts : List WayT) : relsW (joinW is ts) = relsL ts := by
 unfold joinW
 split
 ·simp [relsL]
 ·rw [relsW, if_neg (by rw [h]; decide)]
theorem sees_one {q : Rd} {c : UInt8} (h : preB q.rest { data := #[c] } = true) : (q.sees { data := #[c] }).rest.size + 1 <= q.rest.size := by
 unfold Rd.sees
 rw [if_pos h]
 unfold preB at h
 simp only [Bool.and_eq_true, decide_eq_true_eq] at h
 have h1 : (1 : Nat) <= q.rest.size := h.1
 show (q.rest.extract 1 q.rest.size).size + 1 <= _
 simp; omega
theorem parts_lv {one : Rd -> WayT × Rd} (ho : ∀ q, lvW (one q).1 + (one q).2.rest.size <= q.rest.size + 1) {m : ByteArray} (hm : ∀ q : Rd, preB q.rest m = true -> (q.sees m).rest.size + 1 <= q.rest.size) :
  ∀ n acc q, lvL (partsG one m n acc q).1 + (partsG one m n acc q).2.rest.size <= lvL acc + q.rest.size := by
 intro n
 induction n with
 | zero => intro acc q; exact Nat.le_refl _
 | succ n ih =>
  intro acc q
  rw [partsG]
  split
  ·rename_i h
   have h1 := ih (acc ++ [(one (q.sees m)).1]) (one (q.sees m)).2
   rw [lvL_append] at h1
   have h2 := ho (q.sees m)
   have h3 := hm q h
   omega
  ·exact Nat.le_refl _
theorem mark_one (q p : Rd) (h : preB p.rest (markOf q) = true) : (p.sees (markOf q)).rest.size + 1 <= p.rest.size := by
 unfold markOf at h ⊢
 split
 ·rename_i e; rw [if_pos e] at h; exact sees_one h
 ·rename_i e; rw [if_neg e] at h; exact sees_one h
theorem isOf_join (q : Rd) : isLeaf (isOf q) = false := by unfold isOf; split <;> decide
theorem way_lv {one : Rd -> WayT × Rd} (ho : ∀ q, lvW (one q).1 + (one q).2.rest.size <= q.rest.size + 1) (q : Rd) : lvW (wayG one q).1 + (wayG one q).2.rest.size <= q.rest.size + 1 := by
 have h1 := parts_lv ho (m := markOf (one q).2) (fun p h => mark_one _ p h) (one q).2.rest.size [(one q).1] (one q).2
 have h2 := ho q
 have h3 := join_lv (isOf_join (one q).2) (wayP one q).1
 have e : lvL [(one q).1] = lvW (one q).1 := by simp [lvL]
 rw [e] at h1
 show lvW (joinW (isOf (one q).2) (wayP one q).1) + (wayP one q).2.rest.size <= _
 unfold wayP at h3 ⊢
 omega
theorem plain_lv (q : Rd) : lvW (plainG q).1 + (plainG q).2.rest.size <= q.rest.size + 1 := by
 have h := plainG_size q
 have : lvW (plainG q).1 = 1 := by
  unfold plainG
  split
  ·rfl
  ·split <;> rfl
 omega
theorem one_lv : ∀ d q, lvW (oneF d q).1 + (oneF d q).2.rest.size <= q.rest.size + 1 := by
 intro d
 induction d with
 | zero =>
  intro q
  rw [oneF]
  split
  ·show 1 + 0 <= _; omega
  ·exact plain_lv q
 | succ d ih =>
  intro q
  rw [oneF]
  split
  ·have h1 := way_lv ih q.opened
   have h2 := opened_size q
   have h3 := must_size (wayG (oneF d) q.opened).2 clB
   show lvW (wayG (oneF d) q.opened).1 + ((wayG (oneF d) q.opened).2.must clB).rest.size <= _
   omega
  ·exact plain_lv q
theorem rule_lv (s : ByteArray) (h : s.size <= 200) : lvW (ruleW s).1 <= 201 := by
 have h1 := way_lv (one_lv 5) (ruleQ s)
 have h2 : (ruleQ s).rest.size <= s.size := by
  unfold ruleQ Rd.head
  refine Nat.le_trans (must_size _ _) (Nat.le_trans (relation_size _) (Nat.le_trans (must_size _ _) (name_size _)))
 unfold ruleW
 omega
theorem nameOf_le (s : ByteArray) : (nameOf s).size <= s.size := by
 unfold nameOf; split
 ·simp; omega
 ·exact Nat.zero_le _
theorem plain_rels (q : Rd) : ∀ r ∈ relsW (plainG q).1, r.size <= q.rest.size := by
 intro r hr
 unfold plainG at hr
 have hn : (noneB).size = 0 := rfl
 split at hr
 ·simp [relsW, isLeaf] at hr; rw [hr]; omega
 ·split at hr
  ·simp [relsW, isLeaf] at hr
   rcases hr with rfl | rfl
   ·exact nameOf_le _
   ·exact Nat.le_trans (nameOf_le _) (Nat.le_trans (sees_size _ _) (name_size _))
  ·simp [relsW, isLeaf] at hr
   rcases hr with rfl | rfl
   ·omega
   ·exact nameOf_le _
theorem parts_rels {one : Rd -> WayT × Rd} (hs : ∀ q, (one q).2.rest.size <= q.rest.size) (ho : ∀ q, ∀ r ∈ relsW (one q).1, r.size <= q.rest.size) (m : ByteArray) (N : Nat) :
  ∀ n acc q, q.rest.size <= N -> (∀ r ∈ relsL acc, r.size <= N) -> ∀ r ∈ relsL (partsG one m n acc q).1, r.size <= N := by
 intro n
 induction n with
 | zero => intro acc q _ h; exact h
 | succ n ih =>
  intro acc q hq h
  rw [partsG]
  split
  ·have hz := sees_size q m
   refine ih _ _ (Nat.le_trans (hs _) (by omega)) ?_
   intro r hr
   rw [relsL_append] at hr
   rcases List.mem_append.1 hr with hr | hr
   ·exact h r hr
   ·exact Nat.le_trans (ho _ r hr) (by omega)
  ·exact h
theorem way_rels {one : Rd -> WayT × Rd} (hs : ∀ q, (one q).2.rest.size <= q.rest.size) (ho : ∀ q, ∀ r ∈ relsW (one q).1, r.size <= q.rest.size) (q : Rd) : ∀ r ∈ relsW (wayG one q).1, r.size <= q.rest.size := by
 intro r hr
 have hr : r ∈ relsW (joinW (isOf (one q).2) (wayP one q).1) := hr
 rw [join_rels (isOf_join _)] at hr
 refine parts_rels hs ho _ q.rest.size _ _ _ (hs q) ?_ r hr
 intro r hr
 simp [relsL] at hr
 exact ho q r hr
theorem one_rels : ∀ d q, ∀ r ∈ relsW (oneF d q).1, r.size <= q.rest.size := by
 intro d
 induction d with
 | zero =>
  intro q
  rw [oneF]
  split
  ·intro r hr
   simp [relsW, isLeaf] at hr
   rw [hr]; exact Nat.zero_le _
  ·exact plain_rels q
 | succ d ih =>
  intro q
  rw [oneF]
  split
  ·intro r hr
   exact Nat.le_trans (way_rels (oneF_size d) ih q.opened r hr) (opened_size q)
  ·exact plain_rels q
theorem rule_rels (s : ByteArray) (h : s.size <= 200) : ∀ r ∈ relsW (ruleW s).1, r.size <= 200 := by
 intro r hr
 have h1 := way_rels (oneF_size 5) (one_rels 5) (ruleQ s) r hr
 have h2 : (ruleQ s).rest.size <= s.size := by
  unfold ruleQ Rd.head
  refine Nat.le_trans (must_size _ _) (Nat.le_trans (relation_size _) (Nat.le_trans (must_size _ _) (name_size _)))
 omega
end Go.Proofs.YtalmoiogbdahcaaGreat
