import Derived.Test.YtalmoiogbdahcaaGreatYRefG
import Derived.Test.YtalmoiogbdahcaaGreatYGhE
import Derived.Test.YtalmoiogbdahcaaGreatYLawP
import Derived.Test.YtalmoiogbdahcaaGreatYSrtB
import Derived.Test.YtalmoiogbdahcaaGreatYTieP
import Derived.Test.YtalmoiogbdahcaaGreatYAskA
namespace Go.Proofs.YtalmoiogbdahcaaGreat
set_option maxRecDepth 100000
set_option maxHeartbeats 8000000
open Go.RowKit Go.Shelf
theorem nodeS_size {s : ByteArray} (h : nodeS s = true) : s.size <= 1000 := by
 obtain ⟨k, n, r, ht, hk, hn, hr⟩ := nodeS_parts s h
 have a1 := nameL_len hk
 have a2 := nameL_len hn
 have a3 := nameL_len hr
 rw [eq_mk ht, mk_size]
 simp only [List.length_append, List.length_cons]
 omega
theorem cut_size {s : ByteArray} (h : tupleS s = true) : (cutA s 64).size <= 1000 /\ (cutZ s 64).size <= 1000 := by
 rw [tuple_same] at h
 obtain ⟨k, n, r, k2, n2, o, d⟩ := parts_of s h
 obtain ⟨c1, c2, -⟩ := tup_cut s k n r k2 n2 o d
 have a1 := nameL_len d.hk
 have a2 := nameL_len d.hn
 have a3 := nameL_len d.hr
 have a4 := nameL_len d.hk2
 have a5 := nameL_len d.hn2
 have a6 : (otail o).length <= 37 := by
  cases o with
  | none => simp [otail]
  | some x => have := nameL_len (d.ho x rfl); simp [otail]; omega
 rw [c1, c2, mk_size, mk_size]
 simp only [List.length_append, List.length_cons]
 omega
theorem empty_size (x : ByteArray) : x.toList.isEmpty = true ↔ x.size = 0 := by
 rw [Lib.toList_data, List.isEmpty_iff]
 constructor
 ·intro h
  show x.data.size = 0
  rw [← Array.length_toList, h]; rfl
 ·intro h
  refine List.eq_nil_of_length_eq_zero ?_
  rw [Array.length_toList]; exact h
theorem empty_no0 {x : ByteArray} (h : ¬ x.size = 0) : x.toList.isEmpty = false := by
 cases e : x.toList.isEmpty
 ·rfl
 ·exact absurd ((empty_size x).1 e) h
def askR (rs : List (ByteArray × ByteArray)) (s : ByteArray) : Value :=
 if nodeS s = true then (if (ruleL rs s).size = 0 then .tuple #[.string noneB, .string noneB, .bool false, .int .i64 5] else .tuple #[.string s, .string noneB, .bool false, .int .i64 0])
 else if tupleS s = true /\ thingS (cutZ s 64) = true then (if (ruleL rs (cutA s 64)).size = 0 then .tuple #[.string noneB, .string noneB, .bool true, .int .i64 5] else .tuple #[.string (cutA s 64), .string (cutZ s 64), .bool true, .int .i64 0])
 else .tuple #[.string noneB, .string noneB, .bool false, .int .i64 4]
theorem refAsk_any (b : Nat) (g : Rg) (rs : List (ByteArray × ByteArray)) (s : ByteArray) (w : World) (hg : RgAt w b g) (hr : RulesAt w g.rulesV rs) (hl : rs.length <= 12) (hs : s.size <= maxLen) :
  Calls Tryz.prog 168 #[.pointer (some ⟨b, 0, none⟩), .string s] w fun e w' => e = .returned (askR rs s) /\ ∃ n, w' = w.drewN n := by
 have hno := node_any s w hs
 have HRU : Hid (∀ (node : ByteArray) (n : Nat), node.size <= 1000 -> Calls Tryz.prog 72 #[.pointer (some ⟨b, 0, none⟩), .string node] (w.drewN n) fun e w' => e = .returned (.string (ruleL rs node)) /\ ∃ n, w' = w.drewN n) := by
  intro node n hn
  refine (rule_any b g rs node (w.drewN n) hg hr hl (by omega)).mono ?_
  rintro e w' ⟨he, m, rfl⟩
  exact ⟨he, n + m, drewN_two w n m⟩
 have HTU : Hid (∀ n : Nat, Calls Tryz.prog 71 #[.string s] (w.drewN n) fun e w' => e = .returned (.tuple #[.string (cutA s 64), .string (cutZ s 64), .bool (tupleS s)]) /\ ∃ n, w' = w.drewN n) := by
  intro n
  refine (tuple_any s (w.drewN n) hs).mono ?_
  rintro e w' ⟨he, m, rfl⟩
  exact ⟨he, n + m, drewN_two w n m⟩
 have HTI : Hid (∀ n : Nat, Calls Tryz.prog 118 #[.string (cutZ s 64)] (w.drewN n) fun e w' => e = .returned (.bool (thingS (cutZ s 64))) /\ ∃ n, w' = w.drewN n) := by
  intro n
  obtain ⟨A, Z, O, hA, hZ, hO, ha, hz, -⟩ := cut_gen s 64 hs
  refine (thing_any (cutZ s 64) (w.drewN n) (by rw [hZ]; exact hz)).mono ?_
  rintro e w' ⟨he, m, rfl⟩
  exact ⟨he, n + m, drewN_two w n m⟩
 unfold askR
 by_cases h1 : nodeS s = true
 ·rw [if_pos h1]
  rw [h1] at hno
  have hz := nodeS_size h1
  have hru := fun n => HRU.out s n hz
  by_cases h2 : (ruleL rs s).size = 0
  ·rw [if_pos h2]
   have hz2 : (ruleL rs s).toList.isEmpty = true := (empty_size _).2 h2
   generalize ruleL rs s = way at *
   clear hg hr HRU h1 HTU HTI
   go_enter Tryz.func168, Tryz.ntmps168
   go_wp2_with (first | (go_at_call 73; refine hno.mono ?_; rintro e w1 ⟨rfl, n1, hw1⟩; subst w1) | (go_at_call 72; refine (hru _).mono ?_; rintro e w2 ⟨rfl, hw2⟩))
   exact bodyPost_ret (v := .tuple #[.string { data := #[] }, .string { data := #[] }, .bool false, .int .i64 5]) (by simp [results, Tryz.results168, go_sem]) rfl ⟨rfl, hw2⟩
  ·rw [if_neg h2]
   have hz2 : (ruleL rs s).toList.isEmpty = false := empty_no0 h2
   generalize ruleL rs s = way at *
   clear hg hr HRU h1 HTU HTI
   go_enter Tryz.func168, Tryz.ntmps168
   go_wp2_with (first | (go_at_call 73; refine hno.mono ?_; rintro e w1 ⟨rfl, n1, hw1⟩; subst w1) | (go_at_call 72; refine (hru _).mono ?_; rintro e w2 ⟨rfl, hw2⟩))
   exact bodyPost_ret (v := .tuple #[.string s, .string { data := #[] }, .bool false, .int .i64 0]) (by simp [results, Tryz.results168, go_sem]) rfl ⟨rfl, hw2⟩
 ·rw [if_neg h1]
  have h1' : nodeS s = false := by simpa using h1
  rw [h1'] at hno
  cases ht : tupleS s
  ·rw [if_neg (by rintro ⟨e, -⟩; cases e)]
   have htu := fun n => HTU.out n
   rw [ht] at htu
   have hti := fun n => HTI.out n
   generalize thingS (cutZ s 64) = c at *
   generalize cutA s 64 = A at *
   generalize cutZ s 64 = Z at *
   clear hg hr HRU h1 h1' HTU HTI ht
   go_enter Tryz.func168, Tryz.ntmps168
   go_wp2_with (first | (go_at_call 73; refine hno.mono ?_; rintro e w1 ⟨rfl, n1, hw1⟩; subst w1) | (go_at_call 71; refine (htu _).mono ?_; rintro e w3 ⟨rfl, n3, hw3⟩; subst w3) | (go_at_call 118; refine (hti _).mono ?_; rintro e w4 ⟨rfl, n4, hw4⟩; subst w4))
   exact bodyPost_ret (v := .tuple #[.string { data := #[] }, .string { data := #[] }, .bool false, .int .i64 4]) (by simp [results, Tryz.results168, go_sem]) rfl ⟨rfl, _, rfl⟩
  ·have htu := fun n => HTU.out n
   rw [ht] at htu
   have hti := fun n => HTI.out n
   have hz := (cut_size ht).1
   have hru := fun n => HRU.out (cutA s 64) n hz
   cases hc : thingS (cutZ s 64)
   ·rw [if_neg (by rintro ⟨-, e⟩; cases e)]
    rw [hc] at hti
    generalize cutA s 64 = A at *
    generalize cutZ s 64 = Z at *
    clear hg hr HRU h1 h1' HTU HTI ht hc hru hz
    go_enter Tryz.func168, Tryz.ntmps168
    go_wp2_with (first | (go_at_call 73; refine hno.mono ?_; rintro e w1 ⟨rfl, n1, hw1⟩; subst w1) | (go_at_call 71; refine (htu _).mono ?_; rintro e w3 ⟨rfl, n3, hw3⟩; subst w3) | (go_at_call 118; refine (hti _).mono ?_; rintro e w4 ⟨rfl, n4, hw4⟩; subst w4))
    exact bodyPost_ret (v := .tuple #[.string { data := #[] }, .string { data := #[] }, .bool false, .int .i64 4]) (by simp [results, Tryz.results168, go_sem]) rfl ⟨rfl, _, rfl⟩
   ·rw [if_pos ⟨rfl, rfl⟩]
    rw [hc] at hti
    by_cases h2 : (ruleL rs (cutA s 64)).size = 0
    ·rw [if_pos h2]
     have hz2 : (ruleL rs (cutA s 64)).toList.isEmpty = true := (empty_size _).2 h2
     generalize ruleL rs (cutA s 64) = way at *
     generalize cutA s 64 = A at *
     generalize cutZ s 64 = Z at *
     clear hg hr HRU h1 h1' HTU HTI ht hc
     go_enter Tryz.func168, Tryz.ntmps168
     go_wp2_with (first | (go_at_call 73; refine hno.mono ?_; rintro e w1 ⟨rfl, n1, hw1⟩; subst w1) | (go_at_call 71; refine (htu _).mono ?_; rintro e w3 ⟨rfl, n3, hw3⟩; subst w3) | (go_at_call 118; refine (hti _).mono ?_; rintro e w4 ⟨rfl, n4, hw4⟩; subst w4) | (go_at_call 72; refine (hru _).mono ?_; rintro e w2 ⟨rfl, hw2⟩))
     exact bodyPost_ret (v := .tuple #[.string { data := #[] }, .string { data := #[] }, .bool true, .int .i64 5]) (by simp [results, Tryz.results168, go_sem]) rfl ⟨rfl, hw2⟩
    ·rw [if_neg h2]
     have hz2 : (ruleL rs (cutA s 64)).toList.isEmpty = false := empty_no0 h2
     generalize ruleL rs (cutA s 64) = way at *
     generalize cutA s 64 = A at *
     generalize cutZ s 64 = Z at *
     clear hg hr HRU h1 h1' HTU HTI ht hc
     go_enter Tryz.func168, Tryz.ntmps168
     go_wp2_with (first | (go_at_call 73; refine hno.mono ?_; rintro e w1 ⟨rfl, n1, hw1⟩; subst w1) | (go_at_call 71; refine (htu _).mono ?_; rintro e w3 ⟨rfl, n3, hw3⟩; subst w3) | (go_at_call 118; refine (hti _).mono ?_; rintro e w4 ⟨rfl, n4, hw4⟩; subst w4) | (go_at_call 72; refine (hru _).mono ?_; rintro e w2 ⟨rfl, hw2⟩))
     exact bodyPost_ret (v := .tuple #[.string A, .string Z, .bool true, .int .i64 0]) (by simp [results, Tryz.results168, go_sem]) rfl ⟨rfl, hw2⟩
theorem leafW_kn {ts : List (Nod × Nod)} {x y : Nod} {is : Int} {a b : ByteArray} (h : y ∈ leafW ts x is a b) : (y.th = x.th \/ ∃ t ∈ ts, y.th = t.2.th) /\ (y.r = b \/ ∃ t ∈ ts, y.r = t.2.r) := by
 unfold leafW at h
 split at h
 ·exact ⟨Or.inr ⟨_, mem_subsOf.1 h, rfl⟩, Or.inr ⟨_, mem_subsOf.1 h, rfl⟩⟩
 ·split at h
  ·simp at h; rw [h]; exact ⟨Or.inl rfl, Or.inl rfl⟩
  ·obtain ⟨z, hz, rfl⟩ := List.mem_map.1 h
   exact ⟨Or.inr ⟨_, mem_subsOf.1 (List.mem_filter.1 hz).1, rfl⟩, Or.inl rfl⟩
mutual
theorem namedW_kn {ts : List (Nod × Nod)} {x y : Nod} : (t : WayT) -> y ∈ namedW ts x t -> (y.th = x.th \/ ∃ t ∈ ts, y.th = t.2.th) /\ (y.r ∈ relsW t \/ ∃ t ∈ ts, y.r = t.2.r)
 | .mk is a b parts, h => by
  rw [namedW] at h
  rw [relsW]
  by_cases hl : isLeaf is = true
  ·rw [if_pos hl] at h ⊢
   obtain ⟨h1, h2⟩ := leafW_kn h
   refine ⟨h1, ?_⟩
   rcases h2 with e | e
   ·left; rw [e]; simp
   ·exact Or.inr e
  ·rw [if_neg hl] at h ⊢; exact namedL_kn parts h
theorem namedL_kn {ts : List (Nod × Nod)} {x y : Nod} : (l : List WayT) -> y ∈ namedL ts x l -> (y.th = x.th \/ ∃ t ∈ ts, y.th = t.2.th) /\ (y.r ∈ relsL l \/ ∃ t ∈ ts, y.r = t.2.r)
 | [], h => by rw [namedL] at h; cases h
 | t :: l, h => by
  rw [namedL] at h
  rw [relsL]
  rcases List.mem_append.1 h with h | h
  ·obtain ⟨h1, h2⟩ := namedW_kn t h
   exact ⟨h1, h2.imp (List.mem_append_left _) id⟩
  ·obtain ⟨h1, h2⟩ := namedL_kn l h
   exact ⟨h1, h2.imp (List.mem_append_right _) id⟩
end
structure DocOk (xs now : List ByteArray) : Prop where
 hv : ∀ y ∈ xs, readS y = true
 few : xs.length <= 12
 ht : ∀ s ∈ now, tupOk s = true
 nl : now.length <= 50
def ndT3 (now : List ByteArray) (x : Nod) : List Nod := x.th :: (tsOf now).map (·.2.th)
def ndR3 (xs now : List ByteArray) (x : Nod) : List ByteArray := x.r :: ((tsOf now).map (·.2.r) ++ xs.flatMap fun y => relsW (ruleW y).1)
theorem rch_kn {xs now : List ByteArray} (ok : DocOk xs now) {x y : Nod} (h : Rch (tsOf now) (ruleN xs) x y) : y.th ∈ ndT3 now x /\ y.r ∈ ndR3 xs now x := by
 have h200 : ∀ y ∈ xs, y.size <= 200 := fun y hy => (read_rule y (ok.hv y hy)).1
 induction h with
 | here => exact ⟨by simp [ndT3], by simp [ndR3]⟩
 | on _ h ih =>
  rename_i y z _
  obtain ⟨h1, h2⟩ := namedW_kn _ (List.mem_filter.1 h).1
  constructor
  ·rcases h1 with e | ⟨t, ht, e⟩
   ·rw [e]; exact ih.1
   ·rw [e]; exact List.mem_cons_of_mem _ (List.mem_map.2 ⟨t, ht, rfl⟩)
  ·rcases h2 with e | ⟨t, ht, e⟩
   ·exact List.mem_cons_of_mem _ (List.mem_append_right _ ((rule_cov h200 y).1 _ e))
   ·rw [e]; exact List.mem_cons_of_mem _ (List.mem_append_left _ (List.mem_map.2 ⟨t, ht, rfl⟩))
theorem needs_len {xs now : List ByteArray} (ok : DocOk xs now) {x : Nod} {met : List Nod} (hn : met.Nodup) (hr : ∀ y ∈ met, Rch (tsOf now) (ruleN xs) x y) : met.length <= 300000 := by
 have h200 : ∀ y ∈ xs, y.size <= 200 := fun y hy => (read_rule y (ok.hv y hy)).1
 have h1 : met.length <= ((ndT3 now x).flatMap fun t => (ndR3 xs now x).map fun r => t.to r).length := by
  refine nodup_sub_len _ _ hn fun y hy => ?_
  obtain ⟨k1, k2⟩ := rch_kn ok (hr y hy)
  refine List.mem_flatMap.2 ⟨y.th, k1, List.mem_map.2 ⟨y.r, k2, ?_⟩⟩
  obtain ⟨a, b, c⟩ := y
  rfl
 have h2 : ∀ (U : List ByteArray) (l : List Nod), (l.flatMap fun t => U.map fun r => t.to r).length = l.length * U.length := by
  intro U l
  induction l with
  | nil => simp
  | cons a l ih => rw [List.flatMap_cons, List.length_append, ih, List.length_map, List.length_cons, Nat.add_mul]; omega
 rw [h2] at h1
 have h3 : (ndT3 now x).length <= 51 := by
  unfold ndT3 tsOf
  simp only [List.length_cons, List.length_map]
  have := ok.nl; omega
 have h4 : (ndR3 xs now x).length <= 5000 := by
  unfold ndR3 tsOf
  simp only [List.length_cons, List.length_append, List.length_map]
  have := flat_len xs h200
  have := ok.nl
  have := ok.few; omega
 have := Nat.mul_le_mul h3 h4
 omega
theorem nmN_size {x : Nod} {k n : List UInt8} {o : Option (List UInt8)} (h : NmN x k n o) : (txT x).size <= 200 := by
 rw [nmN_txt h, mk_size]
 have a1 := nameL_len h.hk
 have a2 := nameL_len h.hn
 have a6 : (otail o).length <= 37 := by
  cases o with
  | none => simp [otail]
  | some x => have := nameL_len (h.ho x rfl); simp [otail]; omega
 simp only [List.length_append, List.length_cons]
 omega
structure DocAt (xs now : List ByteArray) (b : Nat) (g : Rg) (tv : Value) (w : World) : Prop where
 rg : RgAt w b g
 rl : RulesAt w g.rulesV (ruleOfs xs)
 tv : StrsAt w tv now
theorem DocAt.below {xs now : List ByteArray} {b : Nat} {g : Rg} {tv : Value} {w w' : World} (h : DocAt xs now b g tv w) (hb : Below w.heap.size w w') : DocAt xs now b g tv w' :=
 ⟨rg_below h.rg hb, rules_below h.rl hb, strs_below h.tv hb⟩
theorem ref_rule {xs now : List ByteArray} (ok : DocOk xs now) {b : Nat} {g : Rg} {tv : Value} {w : World} (h : DocAt xs now b g tv w) {x : Nod} {k n r : List UInt8} (hx : NmN x k n (some r)) :
  Calls Tryz.prog 72 #[.pointer (some ⟨b, 0, none⟩), .string (txT x)] w fun e w' => e = .returned (.string (ruleL (ruleOfs xs) (txT x))) /\ ∃ n, w' = w.drewN n := by
 have := nmN_size hx
 exact rule_any b g (ruleOfs xs) (txT x) w h.rg h.rl (by unfold ruleOfs; rw [List.length_map]; exact ok.few) (by omega)
theorem rule_way {xs now : List ByteArray} (ok : DocOk xs now) {x : Nod} {k n r : List UInt8} (hx : NmN x k n (some r)) (h0 : (ruleL (ruleOfs xs) (txT x)).size ≠ 0) : (ruleL (ruleOfs xs) (txT x)).size <= 200 /\ wayF (ruleL (ruleOfs xs) (txT x)).size (ruleL (ruleOfs xs) (txT x)) = true := by
 rw [rule_txt ok.hv hx] at h0 ⊢
 cases hf : xs.find? (fun s => decide (headKind (rd0 s) = x.k /\ headRel (rd0 s) = x.r)) with
 | none => rw [hf] at h0; exact absurd rfl h0
 | some y =>
  have hy := List.mem_of_find?_eq_some hf
  have hv := ok.hv y hy
  obtain ⟨hs, k', r', wy, op, ts, d⟩ := read_rule y hv
  have hw := (rule_read y d).2.1
  dsimp only
  refine ⟨?_, ?_⟩
  ·have e : y.size = y.data.toList.length := by rw [Array.length_toList]; rfl
   rw [e, d.text] at hs
   rw [hw, mk_size]
   simp only [List.length_append, List.length_cons] at hs
   omega
  ·unfold readS at hv
   simp only [Bool.and_eq_true] at hv
   exact hv.1.2
theorem ref_named {xs now : List ByteArray} (ok : DocOk xs now) {b : Nat} {g : Rg} {tv : Value} {w : World} (h : DocAt xs now b g tv w) {x : Nod} {k n r : List UInt8} (hx : NmN x k n (some r)) (h0 : (ruleL (ruleOfs xs) (txT x)).size ≠ 0) :
  Calls Tryz.prog 201 #[.pointer (some ⟨b, 0, none⟩), tv, .string (txT x), .string (ruleL (ruleOfs xs) (txT x))] w (NPost w ((namesN (tsOf now) (ruleN xs) x).map txT)) := by
 have hs := nmN_size hx
 have hbig := big_max
 obtain ⟨h1, h2⟩ := rule_way ok hx h0
 rcases names_txt ok.hv ok.ht hx with ⟨e, -⟩ | ⟨-, e⟩
 ·exact absurd e h0
 ·rw [← e _ (Nat.le_refl _)]
  have ht : ∀ s ∈ now, s.size <= 250 := fun s h => by
   obtain ⟨k, n, r, k2, n2, o, -, -, -, -, -, -, -, h9⟩ := tup_ok (ok.ht s h)
   exact h9
  exact named_any b tv now (txT x) (by omega) ok.nl (fun s h => by have := ht s h; omega) (fun s h => by have := ht s h; omega) _ _ w (by omega) h2 h.tv
def tellF (ts : List ByteArray) (node : ByteArray) (W : ByteArray -> ByteArray -> Prop) : Nat -> ByteArray -> ByteArray -> Prop
 | f, way, s =>
  if (apartS way).is = 124 then (match f with
   | 0 => False
   | f + 1 => tellF ts node W f (apartS way).A s \/ tellF ts node W f (apartS way).B s)
  else if (apartS way).is = 38 then (match f with
   | 0 => False
   | f + 1 => tellF ts node W f (apartS way).A s /\ tellF ts node W f (apartS way).B s)
  else (∃ y ∈ namedF ts node f way, W y s) \/ ((apartS way).is = 116 /\ s ∈ subjL ts node /\ thingS s = true)
def usT (now : List ByteArray) : List ByteArray := (((tsOf now).map (·.2)).filter (·.isTh)).map txT
theorem usT_len {now : List ByteArray} (h : now.length <= 50) : (usT now).length <= 50 := by
 unfold usT
 rw [List.length_map]
 refine Nat.le_trans (List.length_filter_le _ _) ?_
 unfold tsOf
 rw [List.length_map, List.length_map]; exact h
theorem usT_of {now : List ByteArray} (ht : ∀ s ∈ now, tupOk s = true) {s : ByteArray} (h : s ∈ usT now) : ∃ u k n, NmN u k n none /\ u.isTh = true /\ s = txT u /\ ∃ t ∈ tsOf now, t.2 = u := by
 obtain ⟨u, hu, rfl⟩ := List.mem_map.1 h
 obtain ⟨hu1, hu2⟩ := List.mem_filter.1 hu
 obtain ⟨t, h1, e⟩ := List.mem_map.1 hu1
 obtain ⟨z, hz, rfl⟩ := List.mem_map.1 h1
 obtain ⟨k, n, o, hn⟩ := (tup_txt (ht z hz)).2.1
 rw [e] at hn
 have ho := (nmN_th hn).1 hu2
 subst ho
 exact ⟨u, k, n, hn, hu2, rfl, _, h1, e⟩
theorem subj_us {now : List ByteArray} (ht : ∀ s ∈ now, tupOk s = true) {x : Nod} {k n r : List UInt8} (hx : NmN x k n (some r)) {s : ByteArray} (hs : s ∈ subjL now (txT x)) (h : thingS s = true) : s ∈ usT now := by
 rw [subj_same ht hx] at hs
 obtain ⟨y, hy, rfl⟩ := List.mem_map.1 hs
 obtain ⟨k, n, o, hn⟩ := subs_named ht hy
 rw [thing_txt hn] at h
 exact List.mem_map.2 ⟨y, List.mem_filter.2 ⟨List.mem_map.2 ⟨_, mem_subsOf.1 hy, rfl⟩, h⟩, rfl⟩
theorem tellF_same {ts : List ByteArray} {node a b : ByteArray} {W : ByteArray -> ByteArray -> Prop} (h : apartS a = apartS b) (f : Nat) (s : ByteArray) : tellF ts node W f a s ↔ tellF ts node W f b s := by
 cases f <;> rw [tellF, tellF, h, namedF_same h]
def toldG (ts : List (Nod × Nod)) (P : Nod -> Prop) (x : Nod) (op : UInt8) (l : List WayT) : Prop := if op = 38 then toldA ts P x l else toldO ts P x l
theorem toldG_one {ts : List (Nod × Nod)} {P : Nod -> Prop} {x : Nod} {op : UInt8} {t : WayT} : toldG ts P x op [t] ↔ toldW ts P x t := by
 unfold toldG
 split
 ·rw [toldA, toldA]; simp
 ·rw [toldO, toldO]; simp
theorem toldG_join {ts : List (Nod × Nod)} {P : Nod -> Prop} {x : Nod} {op : UInt8} {l : List WayT} : toldW ts P x (joinT op l) ↔ toldG ts P x op l := by
 unfold joinT
 split
 ·exact toldG_one.symm
 ·unfold toldG
  by_cases h : op = 38
  ·rw [if_pos h, if_pos h, toldW, if_neg (by decide), if_pos rfl]
  ·rw [if_neg h, if_neg h, toldW, if_pos rfl]
theorem toldG_more {ts : List (Nod × Nod)} {P : Nod -> Prop} {x : Nod} {op : UInt8} {t : WayT} {l : List WayT} : toldG ts P x op (l ++ [t]) ↔ if op = 38 then toldG ts P x op l /\ toldW ts P x t else toldG ts P x op l \/ toldW ts P x t := by
 unfold toldG
 by_cases h : op = 38
 ·simp only [if_pos h]
  induction l with
  | nil => simp only [List.nil_append, toldA]; simp
  | cons a l ih => rw [List.cons_append, toldA, ih, toldA, and_assoc]
 ·simp only [if_neg h]
  induction l with
  | nil => simp only [List.nil_append, toldO]; simp
  | cons a l ih => rw [List.cons_append, toldO, ih, toldO, or_assoc]
theorem toldX_leaf {ts : List (Nod × Nod)} {P : Nod -> Prop} {x : Nod} {is : Int} {a b : ByteArray} {l : List WayT} (h : is ≠ 3) (h4 : is ≠ 4) : toldW ts P x (.mk is a b l) ↔ ∃ y ∈ namedW ts x (.mk is a b l), P y := by
 rw [toldW, if_neg h, if_neg h4]
theorem tell_same {now : List ByteArray} (ht : ∀ s ∈ now, tupOk s = true) {x : Nod} {k n r : List UInt8} (hx : NmN x k n (some r)) {u : Nod} {ku nu : List UInt8} (hu : NmN u ku nu none) {W : ByteArray -> ByteArray -> Prop} {P : Nod -> Prop} {b : Bool} {d : Nat} {op : UInt8} {l : List UInt8} {ts : List WayT} (h : Gr b d op l ts) :
  (∀ y ∈ namedL (tsOf now) x ts, y.isTh = false -> (W (txT y) (txT u) ↔ P y)) -> ∀ f, l.length <= f -> (tellF now (txT x) W f (mk l) (txT u) ↔ toldG (tsOf now) (inU u P) x op ts) := by
 have huth : u.isTh = true := (nmN_th hu).2 rfl
 have hthu : thingS (txT u) = true := by rw [thing_txt hu]; exact huth
 induction h with
 | this d op =>
  intro hW f hf
  have e := gr_this d op
  have e1 : tellF now (txT x) W f (mk thisL) (txT u) ↔ (∃ y ∈ namedF now (txT x) f (mk thisL), W y (txT u)) \/ ((apartS (mk thisL)).is = 116 /\ txT u ∈ subjL now (txT x) /\ thingS (txT u) = true) := by
   cases f <;> rw [tellF, if_neg (by omega), if_neg (by omega)]
  rw [e1, toldG_one, toldX_leaf (by decide) (by decide), namedTxt_same ht hx (.this d op) f hf, subj_same ht hx]
  have en : namedW (tsOf now) x (.mk 0 noneB noneB []) = subsOf (tsOf now) x := by simp [namedW, isLeaf, leafW]
  have enl : namedL (tsOf now) x [.mk 0 noneB noneB []] = subsOf (tsOf now) x := by simp [namedL, en]
  rw [enl] at hW ⊢
  rw [en]
  constructor
  ·rintro (⟨y, hy, h⟩ | ⟨-, h, -⟩)
   ·obtain ⟨z, hz, rfl⟩ := List.mem_map.1 hy
    obtain ⟨z1, z2⟩ := List.mem_filter.1 hz
    have z3 : z.isTh = false := by simpa using z2
    exact ⟨z, z1, by unfold inU; rw [if_neg (by rw [z3]; decide)]; exact (hW z z1 z3).1 h⟩
   ·obtain ⟨z, hz, e⟩ := List.mem_map.1 h
    obtain ⟨k, n, o, hn⟩ := subs_named ht hz
    have := nmN_inj hn hu e
    subst this
    exact ⟨z, hz, by unfold inU; rw [if_pos huth]⟩
  ·rintro ⟨y, hy, h⟩
   unfold inU at h
   by_cases hyt : y.isTh = true
   ·rw [if_pos hyt] at h
    right
    exact ⟨e, List.mem_map.2 ⟨y, hy, by rw [h]⟩, hthu⟩
   ·rw [if_neg hyt] at h
    left
    have z3 : y.isTh = false := by simpa using hyt
    exact ⟨txT y, List.mem_map.2 ⟨y, List.mem_filter.2 ⟨hy, by rw [z3]; rfl⟩, rfl⟩, (hW y hy z3).2 h⟩
 | rel d op a h1 h2 =>
  intro hW f hf
  have e := gr_rel d op h1 h2
  have ei : (apartS (mk a)).is = 114 := by rw [e]
  have e1 : tellF now (txT x) W f (mk a) (txT u) ↔ (∃ y ∈ namedF now (txT x) f (mk a), W y (txT u)) \/ ((apartS (mk a)).is = 116 /\ txT u ∈ subjL now (txT x) /\ thingS (txT u) = true) := by
   cases f <;> rw [tellF, if_neg (by omega), if_neg (by omega)]
  rw [e1, toldG_one, toldX_leaf (by decide) (by decide), leaf_rel hx ei h1 (by rw [e]) f]
  have e3 : (x.to (mk a)).isTh = false := decide_eq_false (nameL_pos h1)
  have en : namedW (tsOf now) x (.mk 1 noneB (mk a) []) = [x.to (mk a)] := by simp [namedW, isLeaf, leafW]
  have hq := hW (x.to (mk a)) (by simp [namedL, en]) e3
  rw [en]
  constructor
  ·rintro (⟨y, hy, h⟩ | ⟨h, -⟩)
   ·simp at hy
    rw [hy] at h
    exact ⟨x.to (mk a), by simp, by unfold inU; rw [if_neg (by rw [e3]; decide)]; exact hq.1 h⟩
   ·omega
  ·rintro ⟨y, hy, h⟩
   simp at hy
   rw [hy] at h
   unfold inU at h
   rw [if_neg (by rw [e3]; decide)] at h
   exact Or.inl ⟨_, by simp, hq.2 h⟩
 | arrow d op a b h1 h2 h3 h4 =>
  intro hW f hf
  have e := gr_arrow d op h1 h2 h3 h4
  have ei : (apartS (mk (a ++ 45 :: 62 :: b))).is = 97 := by rw [e]
  have e1 : tellF now (txT x) W f (mk (a ++ 45 :: 62 :: b)) (txT u) ↔ (∃ y ∈ namedF now (txT x) f (mk (a ++ 45 :: 62 :: b)), W y (txT u)) \/ ((apartS (mk (a ++ 45 :: 62 :: b))).is = 116 /\ txT u ∈ subjL now (txT x) /\ thingS (txT u) = true) := by
   cases f <;> rw [tellF, if_neg (by omega), if_neg (by omega)]
  rw [e1, toldG_one, toldX_leaf (by decide) (by decide), leaf_arr ht hx ei h1 h2 (by rw [e]) (by rw [e]) f]
  have e3 : ∀ y : Nod, (y.to (mk b)).isTh = false := fun y => decide_eq_false (nameL_pos h2)
  have en : namedW (tsOf now) x (.mk 2 (mk a) (mk b) []) = ((subsOf (tsOf now) (x.to (mk a))).filter (·.isTh)).map (·.to (mk b)) := by simp [namedW, isLeaf, leafW]
  have hq : ∀ y ∈ ((subsOf (tsOf now) (x.to (mk a))).filter (·.isTh)).map (·.to (mk b)), y.isTh = false /\ (W (txT y) (txT u) ↔ P y) := fun y hy => by
   have e4 : y.isTh = false := by
    obtain ⟨z, -, rfl⟩ := List.mem_map.1 hy
    exact e3 z
   exact ⟨e4, hW y (by simp only [namedL, en, List.append_nil]; exact hy) e4⟩
  rw [en]
  constructor
  ·rintro (⟨y, hy, h⟩ | ⟨h, -⟩)
   ·obtain ⟨z, hz, rfl⟩ := List.mem_map.1 hy
    obtain ⟨q1, q2⟩ := hq z hz
    exact ⟨z, hz, by unfold inU; rw [if_neg (by rw [q1]; decide)]; exact q2.1 h⟩
   ·omega
  ·rintro ⟨y, hy, h⟩
   obtain ⟨q1, q2⟩ := hq y hy
   unfold inU at h
   rw [if_neg (by rw [q1]; decide)] at h
   exact Or.inl ⟨_, List.mem_map.2 ⟨y, hy, rfl⟩, q2.2 h⟩
 | br d op op' l ts h1 ih =>
  intro hW f hf
  rw [tellF_same (gr_br (op := op) h1) f, toldG_one, toldG_join]
  exact ih (fun y hy => hW y (by simp only [namedL, namedW_join, List.append_nil]; exact hy)) f (by simp at hf; omega)
 | one d op l ts h1 ih => exact ih
 | more d op l m ts t hop h1 h2 ih1 ih2 =>
  intro hW f hf
  have e := gr_more hop h1 h2
  simp only [List.length_append, List.length_cons] at hf
  obtain ⟨g, rfl⟩ : ∃ g, f = g + 1 := ⟨f - 1, by omega⟩
  have i1 := ih1 (fun y hy => hW y (by rw [namedL_append]; exact List.mem_append_left _ hy)) g (by omega)
  have i2 := ih2 (fun y hy => hW y (by rw [namedL_append]; exact List.mem_append_right _ hy)) g (by omega)
  rw [toldG_one] at i2
  rw [tellF, toldG_more, e]
  dsimp only
  rcases hop with rfl | rfl
  ·rw [if_pos (by decide), if_neg (by decide), i1, i2]
  ·rw [if_neg (by decide), if_pos (by decide), if_pos rfl, i1, i2]
structure Gat (us out : List ByteArray) (P : ByteArray -> Prop) : Prop where
 so : Sorted out
 us : ∀ s ∈ out, s ∈ us
 iff : ∀ s, s ∈ out ↔ P s
theorem sorted_nodup {l : List ByteArray} (h : Sorted l) : l.Nodup := List.Pairwise.imp (fun h e => by subst e; rw [ltB_irrefl] at h; cases h) h
theorem Gat.len {us out : List ByteArray} {P : ByteArray -> Prop} (h : Gat us out P) : out.length <= us.length := nodup_sub_len _ _ (sorted_nodup h.so) h.us
theorem Gat.congr {us out : List ByteArray} {P Q : ByteArray -> Prop} (h : Gat us out P) (hq : ∀ s, P s ↔ Q s) : Gat us out Q := ⟨h.so, h.us, fun s => (h.iff s).trans (hq s)⟩
theorem Gat.nil (us : List ByteArray) : Gat us [] fun _ => False := ⟨List.Pairwise.nil, (fun s h => by cases h), (fun s => by simp)⟩
theorem mem_with {l : List ByteArray} (hs : Sorted l) (x s : ByteArray) : s ∈ withL l x true ↔ s ∈ l \/ s = x := by
 obtain ⟨i, hp⟩ := place_ex hs x
 rw [with_place hs hp]
 split
 ·rename_i e
  rw [if_pos rfl]
  constructor
  ·exact Or.inl
  ·rintro (h | h)
   ·exact h
   ·rw [h]; exact List.mem_of_getElem? e
 ·rw [if_pos rfl]
  unfold insL
  constructor
  ·intro h
   rcases List.mem_append.1 h with h | h
   ·exact Or.inl (List.mem_of_mem_take h)
   ·rcases List.mem_cons.1 h with h | h
    ·exact Or.inr h
    ·exact Or.inl (List.mem_of_mem_drop h)
  ·rintro (h | h)
   ·rw [← List.take_append_drop i l] at h
    rcases List.mem_append.1 h with h | h
    ·exact List.mem_append_left _ h
    ·exact List.mem_append_right _ (List.mem_cons_of_mem _ h)
   ·rw [h]; exact List.mem_append_right _ (List.mem_cons_self ..)
theorem Gat.add {us out : List ByteArray} {P : ByteArray -> Prop} (h : Gat us out P) {x : ByteArray} (hx : x ∈ us) : Gat us (withL out x true) fun s => P s \/ s = x := by
 obtain ⟨i, hp⟩ := place_ex h.so x
 refine ⟨with_sorted h.so hp true, fun s hs => ?_, fun s => ?_⟩
 ·rcases (mem_with h.so x s).1 hs with e | e
  ·exact h.us s e
  ·rw [e]; exact hx
 ·rw [mem_with h.so, h.iff]
def Wof (met : List Nod) (whoL : List (List ByteArray)) (y s : ByteArray) : Prop := s ∈ whoL.getD (idxI (met.map txT) y).toNat []
def Pof (met : List Nod) (whoL : List (List ByteArray)) (u y : Nod) : Prop := ∃ i, met[i]? = some y /\ txT u ∈ whoL.getD i []
theorem nodup_idx {met : List Nod} (hn : met.Nodup) {i j : Nat} {y : Nod} (hi : met[i]? = some y) (hj : met[j]? = some y) : i = j :=
 (List.getElem?_inj (l := met) (List.getElem?_eq_some_iff.1 hi).1 hn).1 (hi.trans hj.symm)
theorem idx_of {met : List Nod} (hn : met.Nodup) (hm : ∀ z ∈ met, ∃ k n r, NmN z k n (some r)) {y : Nod} {i : Nat} (hy : met[i]? = some y) : idxI (met.map txT) (txT y) = i := by
 have hym := List.mem_of_getElem? hy
 obtain ⟨k, n, r, hny⟩ := hm y hym
 have h0 := mt (idx_mem hm hny).1 (fun e => e hym)
 unfold idxI at h0 ⊢
 cases hf : (met.map txT).findIdx? (fun x => x.toList == (txT y).toList) with
 | none => rw [hf] at h0; simp at h0
 | some j =>
  obtain ⟨hj, he, -⟩ := List.findIdx?_eq_some_iff_getElem.1 hf
  rw [byte_eq, decide_eq_true_iff, List.getElem_map] at he
  have hjm : j < met.length := by simpa using hj
  obtain ⟨k', n', r', hz⟩ := hm _ (List.getElem_mem hjm)
  have e := nmN_inj hz hny he
  have : j = i := nodup_idx hn (y := y) (by rw [List.getElem?_eq_getElem hjm, e]) hy
  rw [this]
theorem wof_pof {met : List Nod} (hn : met.Nodup) (hm : ∀ z ∈ met, ∃ k n r, NmN z k n (some r)) {whoL : List (List ByteArray)} {y u : Nod} (hy : y ∈ met) : Wof met whoL (txT y) (txT u) ↔ Pof met whoL u y := by
 obtain ⟨i, hi⟩ := List.mem_iff_getElem?.1 hy
 unfold Wof Pof
 rw [idx_of hn hm hi]
 constructor
 ·intro h; exact ⟨i, hi, h⟩
 ·rintro ⟨j, hj, h⟩
  have : j = i := nodup_idx hn hj hi
  subst this
  exact h
theorem tell_rule {xs now : List ByteArray} (ok : DocOk xs now) {x : Nod} {k n r : List UInt8} (hx : NmN x k n (some r)) {u : Nod} {ku nu : List UInt8} (hu : NmN u ku nu none) {W : ByteArray -> ByteArray -> Prop} {P : Nod -> Prop} (hW : ∀ y ∈ namesN (tsOf now) (ruleN xs) x, (W (txT y) (txT u) ↔ P y)) :
  ((ruleL (ruleOfs xs) (txT x)).size = 0 /\ ¬ toldW (tsOf now) (inU u P) x (ruleN xs x)) \/ ((ruleL (ruleOfs xs) (txT x)).size ≠ 0 /\ ∀ f, (ruleL (ruleOfs xs) (txT x)).size <= f -> (tellF now (txT x) W f (ruleL (ruleOfs xs) (txT x)) (txT u) ↔ toldW (tsOf now) (inU u P) x (ruleN xs x))) := by
 rw [rule_txt ok.hv hx]
 unfold namesN at hW
 unfold ruleN at hW ⊢
 cases hf : xs.find? (fun s => decide (headKind (rd0 s) = x.k /\ headRel (rd0 s) = x.r)) with
 | none =>
  left
  refine ⟨rfl, ?_⟩
  dsimp only
  rw [toldW, if_pos rfl, toldO]
  exact id
 | some y =>
  right
  have hy := List.mem_of_find?_eq_some hf
  obtain ⟨-, k', r', wy, op, ts, d⟩ := read_rule y (ok.hv y hy)
  obtain ⟨-, -, a3, -⟩ := rule_of y d
  have hw := (rule_read y d).2.1
  rw [hf] at hW
  dsimp only at hW ⊢
  rw [hw, a3, mk_size]
  rw [a3] at hW
  refine ⟨fun e => gr_ne d.gr (List.eq_nil_of_length_eq_zero e), fun f hf => ?_⟩
  dsimp only
  rw [toldG_join]
  refine tell_same ok.ht hx hu d.gr (fun z hz hzt => hW z (List.mem_filter.2 ⟨?_, by rw [hzt]; rfl⟩)) f hf
  dsimp only
  rw [namedW_join]; exact hz
theorem set_getD {α : Type} (l : List (List α)) (i j : Nat) (a : List α) (hi : i < l.length) : (l.set i a).getD j [] = if j = i then a else l.getD j [] := by
 by_cases e : j = i
 ·subst e
  rw [if_pos rfl, List.getD_eq_getElem?_getD, List.getElem?_set_self hi]; rfl
 ·rw [if_neg e, List.getD_eq_getElem?_getD, List.getElem?_set_ne (fun h => e h.symm), List.getD_eq_getElem?_getD]
structure WRnd (xs now : List ByteArray) (met : List Nod) (whoL : List (List ByteArray)) : Prop where
 len : whoL.length = met.length
 so : ∀ i, Sorted (whoL.getD i []) /\ ∀ s ∈ whoL.getD i [], s ∈ usT now
 sound : ∀ i y, met[i]? = some y -> ∀ u ku nu, NmN u ku nu none -> txT u ∈ whoL.getD i [] -> Std (tsOf now) (ruleN xs) u y
 up : ∀ i y, met[i]? = some y -> ∀ u ku nu, NmN u ku nu none -> txT u ∈ whoL.getD i [] -> toldW (tsOf now) (inU u (Pof met whoL u)) y (ruleN xs y)
structure MetOk (xs now : List ByteArray) (x : Nod) (met : List Nod) : Prop where
 nd : met.Nodup
 gone : Gone (tsOf now) xs x met met.length
 nm : ∀ z ∈ met, ∃ k n r, NmN z k n (some r)
theorem MetOk.closed {xs now : List ByteArray} {x : Nod} {met : List Nod} (h : MetOk xs now x met) {y : Nod} (hy : y ∈ met) : ∀ z ∈ namesN (tsOf now) (ruleN xs) y, z ∈ met := by
 obtain ⟨i, hi⟩ := List.mem_iff_getElem?.1 hy
 exact h.gone.closed i y (List.getElem?_eq_some_iff.1 hi).1 hi
theorem pof_mono {met : List Nod} {whoL whoL' : List (List ByteArray)} (h : ∀ i, ∀ s ∈ whoL.getD i [], s ∈ whoL'.getD i []) {u y : Nod} (hp : Pof met whoL u y) : Pof met whoL' u y := by
 obtain ⟨i, hi, hs⟩ := hp
 exact ⟨i, hi, h i _ hs⟩
theorem WRnd.tell {xs now : List ByteArray} (ok : DocOk xs now) {x : Nod} {met : List Nod} (mk0 : MetOk xs now x met) {whoL : List (List ByteArray)} {i : Nat} {y : Nod} (hy : met[i]? = some y) (h0 : (ruleL (ruleOfs xs) (txT y)).size ≠ 0) {u : Nod} {ku nu : List UInt8} (hu : NmN u ku nu none) :
  tellF now (txT y) (Wof met whoL) (ruleL (ruleOfs xs) (txT y)).size (ruleL (ruleOfs xs) (txT y)) (txT u) ↔ toldW (tsOf now) (inU u (Pof met whoL u)) y (ruleN xs y) := by
 have hym := List.mem_of_getElem? hy
 obtain ⟨k, n, r, hny⟩ := mk0.nm y hym
 rcases tell_rule ok hny hu (W := Wof met whoL) (P := Pof met whoL u) (fun z hz => wof_pof mk0.nd mk0.nm (mk0.closed hym z hz)) with ⟨e, -⟩ | ⟨-, e⟩
 ·exact absurd e h0
 ·exact e _ (Nat.le_refl _)
theorem WRnd.grow {xs now : List ByteArray} (ok : DocOk xs now) {x : Nod} {met : List Nod} (mk0 : MetOk xs now x met) {whoL : List (List ByteArray)} (h : WRnd xs now met whoL) {i : Nat} {y : Nod} (hy : met[i]? = some y) (h0 : (ruleL (ruleOfs xs) (txT y)).size ≠ 0) {out : List ByteArray} (hg : Gat (usT now) out (tellF now (txT y) (Wof met whoL) (ruleL (ruleOfs xs) (txT y)).size (ruleL (ruleOfs xs) (txT y)))) :
  (∀ s ∈ whoL.getD i [], s ∈ out) /\ WRnd xs now met (whoL.set i out) /\ (out.length <= (whoL.getD i []).length -> ∀ s, tellF now (txT y) (Wof met whoL) (ruleL (ruleOfs xs) (txT y)).size (ruleL (ruleOfs xs) (txT y)) s -> s ∈ whoL.getD i []) := by
 have hil : i < whoL.length := by rw [h.len]; exact (List.getElem?_eq_some_iff.1 hy).1
 have hsub : ∀ s ∈ whoL.getD i [], s ∈ out := fun s hs => by
  obtain ⟨u, ku, nu, hu, -, rfl, -⟩ := usT_of ok.ht ((h.so i).2 s hs)
  exact (hg.iff _).2 ((WRnd.tell ok mk0 hy h0 hu).2 (h.up i y hy u ku nu hu hs))
 have hmono : ∀ j, ∀ s ∈ whoL.getD j [], s ∈ (whoL.set i out).getD j [] := fun j s hs => by
  rw [set_getD _ _ _ _ hil]
  split
  ·rename_i e; rw [e] at hs; exact hsub s hs
  ·exact hs
 refine ⟨hsub, ⟨?_, fun j => ?_, fun j z hz u ku nu hu hs => ?_, fun j z hz u ku nu hu hs => ?_⟩, fun hl s hs => ?_⟩
 ·rw [List.length_set]; exact h.len
 ·rw [set_getD _ _ _ _ hil]
  split
  ·exact ⟨hg.so, hg.us⟩
  ·exact h.so j
 ·rw [set_getD _ _ _ _ hil] at hs
  split at hs
  ·rename_i e
   rw [e, hy] at hz
   injection hz with hz
   rw [← hz]
   have ht := (WRnd.tell ok mk0 hy h0 hu).1 ((hg.iff _).1 hs)
   refine Std.step (told_names (fun v _ hv => ?_) ht)
   obtain ⟨m, hm, hs2⟩ := hv
   exact h.sound m v hm u ku nu hu hs2
  ·exact h.sound j z hz u ku nu hu hs
 ·rw [set_getD _ _ _ _ hil] at hs
  refine told_names (fun v _ hv => pof_mono hmono hv) ?_ (P := Pof met whoL u)
  split at hs
  ·rename_i e
   rw [e, hy] at hz
   injection hz with hz
   rw [← hz]
   exact (WRnd.tell ok mk0 hy h0 hu).1 ((hg.iff _).1 hs)
  ·exact h.up j z hz u ku nu hu hs
 ·refine Classical.byContradiction fun hn => ?_
  have h1 : (s :: whoL.getD i []).length <= out.length := nodup_sub_len _ _ (List.nodup_cons.2 ⟨hn, sorted_nodup (h.so i).1⟩) (fun a ha => by
   rcases List.mem_cons.1 ha with e | e
   ·rw [e]; exact (hg.iff s).2 hs
   ·exact hsub a e)
  rw [List.length_cons] at h1
  omega
theorem WRnd.done {xs now : List ByteArray} (ok : DocOk xs now) {x : Nod} {met : List Nod} (mk0 : MetOk xs now x met) {whoL : List (List ByteArray)} (h : WRnd xs now met whoL)
  (hf : ∀ i y, met[i]? = some y -> (ruleL (ruleOfs xs) (txT y)).size = 0 \/ ∀ s, tellF now (txT y) (Wof met whoL) (ruleL (ruleOfs xs) (txT y)).size (ruleL (ruleOfs xs) (txT y)) s -> s ∈ whoL.getD i [])
  {i : Nat} {y : Nod} (hy : met[i]? = some y) {u : Nod} {ku nu : List UInt8} (hu : NmN u ku nu none) : txT u ∈ whoL.getD i [] ↔ Std (tsOf now) (ruleN xs) u y := by
 refine ⟨h.sound i y hy u ku nu hu, fun hs => ?_⟩
 have key : Pof met whoL u y := by
  refine Std.in (S := (· ∈ met)) (W := fun z => Pof met whoL u z) (fun z hz => mk0.closed hz) ?_ (List.mem_of_getElem? hy) hs
  intro z hz ht
  obtain ⟨j, hj⟩ := List.mem_iff_getElem?.1 hz
  obtain ⟨k, n, r, hnz⟩ := mk0.nm z hz
  rcases tell_rule ok hnz hu (W := Wof met whoL) (P := Pof met whoL u) (fun v hv => wof_pof mk0.nd mk0.nm (mk0.closed hz v hv)) with ⟨-, e⟩ | ⟨e, e2⟩
  ·exact absurd ht e
  ·rcases hf j z hj with e3 | e3
   ·exact absurd e3 e
   ·exact ⟨j, hj, e3 _ ((e2 _ (Nat.le_refl _)).2 ht)⟩
 obtain ⟨j, hj, hs2⟩ := key
 have : j = i := nodup_idx mk0.nd hj hy
 rw [← this]; exact hs2
theorem WRnd.start {xs now : List ByteArray} (met : List Nod) : WRnd xs now met (List.replicate met.length []) := by
 have h : ∀ i, (List.replicate met.length ([] : List ByteArray)).getD i [] = [] := fun i => by
  rw [List.getD_eq_getElem?_getD, List.getElem?_replicate]
  split <;> rfl
 refine ⟨by simp, fun i => ?_, fun i y _ u _ _ _ hs => ?_, fun i y _ u _ _ _ hs => ?_⟩
 ·rw [h]; exact ⟨List.Pairwise.nil, fun s hs => by cases hs⟩
 ·rw [h] at hs; cases hs
 ·rw [h] at hs; cases hs
def gapT (whoL : List (List ByteArray)) : Nat := (whoL.map fun l => 50 - l.length).sum
theorem gapT_set : ∀ {whoL : List (List ByteArray)} {i : Nat} {out : List ByteArray}, i < whoL.length -> (whoL.getD i []).length < out.length -> out.length <= 50 -> gapT (whoL.set i out) < gapT whoL := by
 intro whoL
 induction whoL with
 | nil => intro i out hi; simp at hi
 | cons a l ih =>
  intro i out hi hl ho
  unfold gapT at ih ⊢
  cases i with
  | zero =>
   simp only [List.set_cons_zero, List.map_cons, List.sum_cons]
   simp at hl
   omega
  | succ i =>
   simp only [List.set_cons_succ, List.map_cons, List.sum_cons]
   have := ih (i := i) (out := out) (by simpa using hi) (by simpa using hl) ho
   omega
theorem idx_str {zs : List ByteArray} {s : ByteArray} : 0 <= idxI zs s ↔ s ∈ zs := by
 unfold idxI
 cases hf : zs.findIdx? (fun x => x.toList == s.toList) with
 | none =>
  rw [List.findIdx?_eq_none_iff] at hf
  constructor
  ·intro h; exact absurd h (by decide)
  ·intro h
   have := hf s h
   simp at this
 | some i =>
  obtain ⟨hi, he, -⟩ := List.findIdx?_eq_some_iff_getElem.1 hf
  rw [byte_eq, decide_eq_true_iff] at he
  constructor
  ·intro _; rw [← he]; exact List.getElem_mem hi
  ·intro _; exact Int.natCast_nonneg i
structure ByC (now : List ByteArray) (met : List Nod) (whoL : List (List ByteArray)) (tv nv wv : Value) (w : World) : Prop where
 tv : StrsAt w tv now
 nv : StrsAt w nv (met.map txT)
 wv : ∃ wg c, wv = .slice (some ⟨wg, 0, none⟩) whoL.length c /\ ∀ i l, whoL[i]? = some l -> ∃ x c', w.cell? ⟨wg, i, none⟩ = some (.slice x l.length c') /\ StrsAt w (.slice x l.length c') l
theorem ByC.below {now : List ByteArray} {met : List Nod} {whoL : List (List ByteArray)} {tv nv wv : Value} {w w' : World} (h : ByC now met whoL tv nv wv w) (hb : Below w.heap.size w w') : ByC now met whoL tv nv wv w' := by
 refine ⟨strs_below h.tv hb, strs_below h.nv hb, ?_⟩
 obtain ⟨wg, c, e, hc⟩ := h.wv
 refine ⟨wg, c, e, fun i l hl => ?_⟩
 obtain ⟨x, c', h1, h2⟩ := hc i l hl
 exact ⟨x, c', (hb.cell (cell_lt h1)).trans h1, strs_below h2 hb⟩
structure ByK (now : List ByteArray) (met : List Nod) (whoL : List (List ByteArray)) : Prop where
 ht : ∀ s ∈ now, tupOk s = true
 nl : now.length <= 50
 ml : met.length <= 300000
 len : whoL.length = met.length
 us : ∀ l ∈ whoL, ∀ s ∈ l, s ∈ usT now
 short : ∀ l ∈ whoL, l.length <= 50
def ByPost (us : List ByteArray) (P : ByteArray -> Prop) (w : World) (e : Ending) (w' : World) : Prop :=
 ∃ o c out, e = .returned (.slice o out.length c) /\ w'.ownsRow w.heap.size 9 1 (.slice o out.length c) out.length (strV out) /\ Gat us out P /\ Below w.heap.size w w'
structure ByI (us : List ByteArray) (P : ByteArray -> Prop) (w w5 : World) (ov : Value) (out : List ByteArray) (wr : World) : Prop where
 own : wr.ownsRow w.heap.size 9 1 ov out.length (strV out)
 g : Gat us out P
 below : Below w5.heap.size w5 wr
theorem ByI.congr {us : List ByteArray} {P Q : ByteArray -> Prop} {w w5 : World} {ov : Value} {out : List ByteArray} {wr : World} (h : ByI us P w w5 ov out wr) (hq : ∀ s, P s ↔ Q s) : ByI us Q w w5 ov out wr := ⟨h.own, h.g.congr hq, h.below⟩
theorem ByI.later {us : List ByteArray} {P : ByteArray -> Prop} {w w5 : World} {ov : Value} {out : List ByteArray} {wr wr' : World} (h : ByI us P w w5 ov out wr) (hb : Below wr.heap.size wr wr') : ByI us P w w5 ov out wr' := ⟨owns_below h.own hb, h.g, h.below.trans (hb.mono h.below.size)⟩
theorem ByI.with {us : List ByteArray} (hus : us.length <= 50) {P : ByteArray -> Prop} {w w5 : World} (h5 : w.heap.size <= w5.heap.size) {ov : Value} {out : List ByteArray} {wr : World} (h : ByI us P w w5 ov out wr) {x : ByteArray} (hx : x ∈ us) :
  Calls Tryz.prog 74 #[ov, .string x, .bool true] wr fun e w' => ∃ o c out', e = .returned (.slice o out'.length c) /\ ByI us (fun s => P s \/ s = x) w w5 (.slice o out'.length c) out' w' := by
 refine (with_any ov out x true wr (owns_strs h.own) (by have := h.g.len; omega)).mono ?_
 rintro e w' ⟨v', rfl, ho, hb⟩
 obtain ⟨o, c, rfl⟩ := owns_form ho
 exact ⟨o, c, _, rfl, owns_base ho (Nat.le_trans h5 h.below.size), h.g.add hx, h.below.trans (hb.mono h.below.size)⟩
theorem ByI.post {us : List ByteArray} {P : ByteArray -> Prop} {w w5 : World} (h5 : Below w.heap.size w w5) {o : Option Addr} {c : Nat} {out : List ByteArray} {wr : World} (h : ByI us P w w5 (.slice o out.length c) out wr) : ByPost us P w (.returned (.slice o out.length c)) wr :=
 ⟨o, c, out, rfl, h.own, h.g, h5.trans (h.below.mono h5.size)⟩
theorem ByPost.congr {us : List ByteArray} {P Q : ByteArray -> Prop} {w : World} {e : Ending} {w' : World} (h : ByPost us P w e w') (hq : ∀ s, P s ↔ Q s) : ByPost us Q w e w' := by
 obtain ⟨o, c, out, h1, h2, h3, h4⟩ := h
 exact ⟨o, c, out, h1, h2, h3.congr hq, h4⟩
theorem by_chain (gb : Nat) {now : List ByteArray} {met : List Nod} {whoL : List (List ByteArray)} {tv nv wv : Value} (node A B : ByteArray) (us : List ByteArray) (PA PB : ByteArray -> Prop) (w : World) (hc : ByC now met whoL tv nv wv w)
  (hIA : ∀ w', ByC now met whoL tv nv wv w' -> Calls Tryz.prog 200 #[.pointer (some ⟨gb, 0, none⟩), tv, nv, wv, .string node, .string A] w' (ByPost us PA w')) (hIB : ∀ w', ByC now met whoL tv nv wv w' -> Calls Tryz.prog 200 #[.pointer (some ⟨gb, 0, none⟩), tv, nv, wv, .string node, .string B] w' (ByPost us PB w'))
  (w3 : World) (hb3 : Below w.heap.size w w3) :
  Calls Tryz.prog 200 #[.pointer (some ⟨gb, 0, none⟩), tv, nv, wv, .string node, .string A] w3 fun e w4 => ∃ oa ca la, e = .returned (.slice oa la.length ca) /\ Below w3.heap.size w3 w4 /\
   Hid (Calls Tryz.prog 200 #[.pointer (some ⟨gb, 0, none⟩), tv, nv, wv, .string node, .string B] w4 fun e w5 => ∃ ob cb lb, e = .returned (.slice ob lb.length cb) /\ Below w3.heap.size w3 w5 /\ Hid (w5.ownsRow w.heap.size 9 1 (.slice oa la.length ca) la.length (strV la) /\ w5.ownsRow w.heap.size 9 1 (.slice ob lb.length cb) lb.length (strV lb) /\ Gat us la PA /\ Gat us lb PB /\ Below w.heap.size w w5)) := by
 refine (hIA w3 (hc.below hb3)).mono ?_
 rintro e w4 ⟨oa, ca, la, rfl, ha, hga, hb4⟩
 refine ⟨oa, ca, la, rfl, hb4, ?_⟩
 have hb04 : Below w.heap.size w w4 := hb3.trans (hb4.mono hb3.size)
 refine (hIB w4 (hc.below hb04)).mono ?_
 rintro e w5 ⟨ob, cb, lb, rfl, hb, hgb, hb5⟩
 exact ⟨ob, cb, lb, rfl, hb4.trans (hb5.mono hb4.size), owns_below (owns_base ha hb3.size) hb5, owns_base hb hb04.size, hga, hgb, hb04.trans (hb5.mono hb04.size)⟩
theorem hasR_txt {xs : List ByteArray} (hv : ∀ y ∈ xs, readS y = true) {x : Nod} {k n r : List UInt8} (hx : NmN x k n (some r)) : hasR xs x = true ↔ (ruleL (ruleOfs xs) (txT x)).size ≠ 0 := by
 rw [rule_txt hv hx]
 unfold hasR
 cases hf : xs.find? (fun s => decide (headKind (rd0 s) = x.k /\ headRel (rd0 s) = x.r)) with
 | none =>
  constructor
  ·intro h; cases h
  ·intro h; exact absurd rfl h
 | some y =>
  obtain ⟨-, k', r', wy, op, ts, d⟩ := read_rule y (hv y (List.mem_of_find?_eq_some hf))
  have hw := (rule_read y d).2.1
  dsimp only
  rw [hw, mk_size]
  exact ⟨fun _ e => gr_ne d.gr (List.eq_nil_of_length_eq_zero e), fun _ => rfl⟩
theorem txT_nd {x : Nod} {k n r : List UInt8} (hx : NmN x k n (some r)) : txT x = ndT x := by
 unfold txT
 rw [if_neg (fun e => by have := (nmN_th hx).1 e; cases this)]
theorem txT_th {x : Nod} (hx : x.isTh = true) : txT x = thT x := by
 unfold txT
 rw [if_pos hx]
inductive AskC (xs : List ByteArray) (s : ByteArray) : ByteArray -> ByteArray -> Bool -> Int -> Prop
 | none : queOk s = false -> AskC xs s noneB noneB false 4
 | free (c : Bool) : queOk s = true -> queC s = c -> hasR xs (queX s) = false -> AskC xs s noneB noneB c 5
 | some (t : ByteArray) (c : Bool) (k n r : List UInt8) : queOk s = true -> queC s = c -> hasR xs (queX s) = true -> NmN (queX s) k n (some r) -> (c = true -> t = thT (queY s)) -> t.size <= 1000 -> AskC xs s (txT (queX s)) t c 0
theorem askC_of {xs : List ByteArray} (hv : ∀ y ∈ xs, readS y = true) (s : ByteArray) : ∃ nd th c er, askR (ruleOfs xs) s = .tuple #[.string nd, .string th, .bool c, .int .i64 er] /\ AskC xs s nd th c er := by
 unfold askR
 by_cases h1 : nodeS s = true
 ·rw [if_pos h1]
  obtain ⟨q1, q2, q3, k, n, r, hk, hn, hr, hx⟩ := que_node h1
  have nm : NmN (queX s) k n (some r) := ⟨hx, hk, hn, fun z hz => by cases hz; exact hr⟩
  have e : txT (queX s) = s := (txT_nd nm).trans q3
  have hR := hasR_txt hv nm
  rw [e] at hR
  by_cases h2 : (ruleL (ruleOfs xs) s).size = 0
  ·rw [if_pos h2]
   refine ⟨_, _, _, _, rfl, .free false q1 q2 ?_⟩
   cases h : hasR xs (queX s)
   ·rfl
   ·exact absurd h2 (hR.1 h)
  ·rw [if_neg h2]
   have := AskC.some (xs := xs) noneB false k n r q1 q2 (hR.2 h2) nm (fun e => by cases e) (Nat.zero_le _)
   rw [e] at this
   exact ⟨_, _, _, _, rfl, this⟩
 ·rw [if_neg h1]
  by_cases h2 : tupleS s = true /\ thingS (cutZ s 64) = true
  ·rw [if_pos h2]
   obtain ⟨q1, q2, q3, q4, k, n, r, hk, hn, hr, hx⟩ := que_check h2.1 h2.2
   have nm : NmN (queX s) k n (some r) := ⟨hx, hk, hn, fun z hz => by cases hz; exact hr⟩
   have e : txT (queX s) = cutA s 64 := (txT_nd nm).trans q3
   have hR := hasR_txt hv nm
   rw [e] at hR
   by_cases h3 : (ruleL (ruleOfs xs) (cutA s 64)).size = 0
   ·rw [if_pos h3]
    refine ⟨_, _, _, _, rfl, .free true q1 q2 ?_⟩
    cases h : hasR xs (queX s)
    ·rfl
    ·exact absurd h3 (hR.1 h)
   ·rw [if_neg h3]
    have := AskC.some (xs := xs) (cutZ s 64) true k n r q1 q2 (hR.2 h3) nm (fun _ => q4.symm) (cut_size h2.1).2
    rw [e] at this
    exact ⟨_, _, _, _, rfl, this⟩
  ·rw [if_neg h2]
   exact ⟨_, _, _, _, rfl, .none (que_none (by simpa using h1) h2)⟩
def RWhoP (xs now : List ByteArray) (x : Nod) (w : World) (e : Ending) (w' : World) : Prop :=
 ∃ o c zs, e = .returned (.slice o zs.length c) /\ StrsAt w' (.slice o zs.length c) zs /\ Sorted zs /\ zs.length <= 50 /\ (∀ s, s ∈ zs ↔ ∃ u, InN (tsOf now) xs u x /\ thT u = s) /\ Below w.heap.size w w'
def RWhoC : Prop := ∀ {xs now : List ByteArray}, DocOk xs now -> ∀ {b : Nat} {g : Rg} {tv : Value} {w : World}, DocAt xs now b g tv w -> ∀ {x : Nod} {k n r : List UInt8}, NmN x k n (some r) -> Calls Tryz.prog 169 #[.pointer (some ⟨b, 0, none⟩), tv, .string (txT x)] w (RWhoP xs now x w)
def RNeedP (xs now : List ByteArray) (x : Nod) (w : World) (e : Ending) (w' : World) : Prop :=
 ∃ o c met, e = .returned (.slice o met.length c) /\ MetOk xs now x met /\ w'.ownsRow w.heap.size 9 1 (.slice o met.length c) met.length (strV (met.map txT)) /\ met.length <= 300000 /\ Below w.heap.size w w'
def RNeedC : Prop := ∀ {xs now : List ByteArray}, DocOk xs now -> ∀ {b : Nat} {g : Rg} {tv : Value} {w : World}, DocAt xs now b g tv w -> ∀ {x : Nod} {k n r : List UInt8}, NmN x k n (some r) -> Calls Tryz.prog 171 #[.pointer (some ⟨b, 0, none⟩), tv, .string (txT x)] w (RNeedP xs now x w)
theorem last_round {xs now : List ByteArray} (ok : DocOk xs now) {x : Nod} {met : List Nod} (mo : MetOk xs now x met) {whoL : List (List ByteArray)} (h : WRnd xs now met whoL)
  (hf : ∀ i y, met[i]? = some y -> (ruleL (ruleOfs xs) (txT y)).size = 0 \/ ∀ s, tellF now (txT y) (Wof met whoL) (ruleL (ruleOfs xs) (txT y)).size (ruleL (ruleOfs xs) (txT y)) s -> s ∈ whoL.getD i []) :
  Sorted (whoL.getD 0 []) /\ (whoL.getD 0 []).length <= 50 /\ ∀ s, s ∈ whoL.getD 0 [] ↔ ∃ u, InN (tsOf now) xs u x /\ thT u = s := by
 refine ⟨(h.so 0).1, Nat.le_trans (nodup_sub_len _ _ (sorted_nodup (h.so 0).1) (h.so 0).2) (usT_len ok.nl), fun s => ?_⟩
 constructor
 ·intro hs
  obtain ⟨u, ku, nu, hu, hth, rfl, ht⟩ := usT_of ok.ht ((h.so 0).2 s hs)
  exact ⟨u, ⟨hth, ht, (WRnd.done ok mo h hf mo.gone.first hu).1 hs⟩, (txT_th hth).symm⟩
 ·rintro ⟨u, ⟨hth, ⟨t, ht, e⟩, hst⟩, rfl⟩
  obtain ⟨z, hz, rfl⟩ := List.mem_map.1 ht
  obtain ⟨k, n, o, hn⟩ := (tup_txt (ok.ht z hz)).2.1
  rw [e] at hn
  have ho := (nmN_th hn).1 hth
  subst ho
  have := (WRnd.done ok mo h hf mo.gone.first hn).2 hst
  rw [txT_th hth] at this
  exact this
theorem ask_ref {xs now : List ByteArray} (ok : DocOk xs now) {b : Nat} {g : Rg} {tv : Value} {w : World} (h : DocAt xs now b g tv w) (s : ByteArray) (hs : s.size <= maxLen) : ∃ nd th c er, AskC xs s nd th c er /\
  Calls Tryz.prog 168 #[.pointer (some ⟨b, 0, none⟩), .string s] w fun e w' => e = .returned (.tuple #[.string nd, .string th, .bool c, .int .i64 er]) /\ Below w.heap.size w w' := by
 obtain ⟨nd, th, c, er, e, ha⟩ := askC_of ok.hv s
 refine ⟨nd, th, c, er, ha, ?_⟩
 refine (refAsk_any b g (ruleOfs xs) s w h.rg h.rl (by unfold ruleOfs; rw [List.length_map]; exact ok.few) hs).mono ?_
 rintro e' w' ⟨rfl, hd⟩
 rw [e]
 exact ⟨rfl, below_draw hd⟩
def RExpP (xs now : List ByteArray) (s : ByteArray) (w : World) (e : Ending) (w' : World) : Prop :=
 ∃ o n c, ∃ er : Int, e = .returned (.tuple #[.slice o n c, .int .i64 er]) /\ Below w.heap.size w w' /\ er = (if queOk s = false \/ queC s = true then 4 else if hasR xs (queX s) = false then 5 else 0) /\ ∃ zs : List ByteArray, n = zs.length /\ Sorted zs /\ zs.length <= 50 /\ StrsAt w' (.slice o n c) zs /\ if er = 0 then (∀ z, z ∈ zs ↔ ∃ u, InN (tsOf now) xs u (queX s) /\ thT u = z) else zs = []
theorem refExpand_any (HW : Hid RWhoC) {xs now : List ByteArray} (ok : DocOk xs now) {b : Nat} {g : Rg} {w : World} (h : DocAt xs now b g g.nowV w) (s : ByteArray) (hs : s.size <= maxLen) :
  Calls Tryz.prog 122 #[.pointer (some ⟨b, 0, none⟩), .string s] w (RExpP xs now s w) := by
 obtain ⟨nd, th, c, er, ha, hask⟩ := ask_ref ok h s hs
 have HNO : Hid (∀ er : Int, er ≠ 0 -> er = (if queOk s = false \/ queC s = true then 4 else if hasR xs (queX s) = false then 5 else 0) -> ∀ w', Below w.heap.size w w' -> RExpP xs now s w (.returned (.tuple #[.slice none 0 0, .int .i64 er])) w') := by
  intro er he0 he w' hb
  exact ⟨none, 0, 0, er, rfl, hb, he, [], rfl, List.Pairwise.nil, by simp, Or.inl ⟨rfl, rfl⟩, by rw [if_neg he0]⟩
 cases ha with
 | none h1 =>
  have H4 : Hid (∀ w', Below w.heap.size w w' -> RExpP xs now s w (.returned (.tuple #[.slice none 0 0, .int .i64 4])) w') := HNO.out 4 (by decide) (by rw [h1]; rfl)
  generalize RExpP xs now s w = P at *
  clear h hs HNO HW ok h1
  go_enter Tryz.func122, Tryz.ntmps122
  go_wp2_with (go_at_call 168; refine hask.mono ?_; rintro e w1 ⟨rfl, hb1⟩)
  exact H4.out _ hb1
 | free c h1 h2 h3 =>
  cases c with
  | false =>
   have H4 : Hid (∀ w', Below w.heap.size w w' -> RExpP xs now s w (.returned (.tuple #[.slice none 0 0, .int .i64 5])) w') := HNO.out 5 (by decide) (by rw [h1, h2, h3]; rfl)
   generalize RExpP xs now s w = P at *
   clear h hs HNO HW ok h1 h2 h3
   go_enter Tryz.func122, Tryz.ntmps122
   go_wp2_with (go_at_call 168; refine hask.mono ?_; rintro e w1 ⟨rfl, hb1⟩)
   exact H4.out _ hb1
  | true =>
   have H4 : Hid (∀ w', Below w.heap.size w w' -> RExpP xs now s w (.returned (.tuple #[.slice none 0 0, .int .i64 4])) w') := HNO.out 4 (by decide) (by rw [h2]; simp)
   generalize RExpP xs now s w = P at *
   clear h hs HNO HW ok h1 h2 h3
   go_enter Tryz.func122, Tryz.ntmps122
   go_wp2_with (go_at_call 168; refine hask.mono ?_; rintro e w1 ⟨rfl, hb1⟩)
   exact H4.out _ hb1
 | some t c k n r h1 h2 h3 nm h4 h5 =>
  cases c with
  | true =>
   have H4 : Hid (∀ w', Below w.heap.size w w' -> RExpP xs now s w (.returned (.tuple #[.slice none 0 0, .int .i64 4])) w') := HNO.out 4 (by decide) (by rw [h2]; simp)
   generalize RExpP xs now s w = P at *
   generalize txT (queX s) = nd at *
   clear h hs HNO HW ok h1 h2 h3 nm h4
   go_enter Tryz.func122, Tryz.ntmps122
   go_wp2_with (go_at_call 168; refine hask.mono ?_; rintro e w1 ⟨rfl, hb1⟩)
   exact H4.out _ hb1
  | false =>
   have HWH : Hid (∀ w1, Below w.heap.size w w1 -> Calls Tryz.prog 169 #[.pointer (some ⟨b, 0, none⟩), g.nowV, .string (txT (queX s))] w1 fun e w2 => ∃ o n c, e = .returned (.slice o n c) /\ RExpP xs now s w (.returned (.tuple #[.slice o n c, .int .i64 0])) w2) := by
    intro w1 hb1
    refine (HW.out ok (h.below hb1) nm).mono ?_
    rintro e w2 ⟨o, c, zs, rfl, q1, q2, q3, q4, q5⟩
    exact ⟨o, _, c, rfl, o, _, c, 0, rfl, hb1.trans (q5.mono hb1.size), by rw [h1, h2, h3]; rfl, zs, rfl, q2, q3, q1, by rw [if_pos rfl]; exact q4⟩
   have hg1 := row_cell h.rg (j := 1) rfl
   have hgl := row_lt h.rg
   obtain ⟨nx, nn, nc, hnv⟩ : ∃ x n c, g.nowV = .slice x n c := by
    rcases h.tv with ⟨e, -⟩ | ⟨b, off, cap, e, -⟩
    ·exact ⟨_, _, _, e⟩
    ·exact ⟨_, _, _, e⟩
   rw [hnv] at hg1 HWH
   generalize RExpP xs now s w = P at *
   generalize txT (queX s) = nd at *
   clear h hs HNO HW ok h1 h2 h3 nm h4 hnv
   go_enter Tryz.func122, Tryz.ntmps122
   go_wp2_with (first | (go_at_call 168; refine hask.mono ?_; rintro e w1 ⟨rfl, hb1⟩; have hg2 := (hb1.cell hgl).trans hg1) | (go_at_call 169; refine (HWH.out _ (by first | exact hb1 | exact hb1.drew)).mono ?_; rintro e w2 ⟨o, n, c, rfl, hp⟩))
   exact hp
def CheckP (xs now : List ByteArray) (s : ByteArray) (w : World) (e : Ending) (w' : World) : Prop :=
 ∃ (bo : Bool) (er : Int), e = .returned (.tuple #[.bool bo, .int .i64 er]) /\ Below w.heap.size w w' /\ er = (if queOk s = false \/ queC s = false then 4 else if hasR xs (queX s) = false then 5 else 0) /\ (bo = true ↔ er = 0 /\ ∃ u, InN (tsOf now) xs u (queX s) /\ thT u = thT (queY s))
theorem check_any (HN : Hid NodeC) (HW : Hid TWayC) {U xs now : List ByteArray} {b : Nat} {g : Pg} {w : World} (h : GateQ U xs now b g w) (s : ByteArray) (hs : s.size <= maxLen) (hQ : queOk s = true -> hasR xs (queX s) = true -> QueOk U s) (hO : okNd (queX s)) :
  Calls Tryz.prog 21 #[.pointer (some ⟨b, 0, none⟩), .string s] w (CheckP xs now s w) := by
 have hrq := readQuestion_any s w hs
 have HNO : Hid (∀ er : Int, er ≠ 0 -> er = (if queOk s = false \/ queC s = false then 4 else if hasR xs (queX s) = false then 5 else 0) -> ∀ w', Below w.heap.size w w' -> CheckP xs now s w (.returned (.tuple #[.bool false, .int .i64 er])) w') := by
  intro er he0 he w' hb
  exact ⟨false, er, rfl, hb, he, ⟨(fun e => by cases e), fun e => absurd e.1 he0⟩⟩
 cases hok : queOk s
 ·rw [hok, queVal_no hok] at hrq
  have H4 : Hid (∀ w', Below w.heap.size w w' -> CheckP xs now s w (.returned (.tuple #[.bool false, .int .i64 4])) w') := HNO.out 4 (by decide) (by rw [hok]; rfl)
  generalize CheckP xs now s w = P at *
  clear h hs hQ hO hok HNO HN HW
  go_enter Tryz.func21, Tryz.ntmps21
  go_wp2_with (go_at_call 45; refine hrq.mono ?_; rintro e w1 ⟨rfl, hb1⟩)
  exact H4.out _ (hb1.alloc hb1.size _)
 ·rw [hok, queVal_yes hok] at hrq
  have HIC : Hid (∀ w1, Calls Tryz.prog 46 #[.agg #[.string (queX s).k, .string (queX s).n, .string (queX s).r, .string (queY s).k, .string (queY s).n, .string (queY s).r]] w1 fun e w' => e = .returned (.bool (queC s)) /\ Below w1.heap.size w1 w') := fun w1 => isCheck_any _ _ _ _ _ _ w1
  cases hc : queC s
  ·rw [hc] at HIC
   have H4 : Hid (∀ w', Below w.heap.size w w' -> CheckP xs now s w (.returned (.tuple #[.bool false, .int .i64 4])) w') := HNO.out 4 (by decide) (by rw [hok, hc]; rfl)
   generalize CheckP xs now s w = P at *
   generalize queX s = x at *
   generalize queY s = y at *
   clear h hs hQ hO hok HNO HN HW hc
   go_enter Tryz.func21, Tryz.ntmps21
   go_wp2_with (first | (go_at_call 45; refine hrq.mono ?_; rintro e w1 ⟨rfl, hb1⟩) | (go_at_call 46; refine (HIC.out _).mono ?_; rintro e w2 ⟨rfl, hb2⟩; have hbB : Below w.heap.size w w2 := (hb1.alloc hb1.size _).trans (hb2.mono (by have := hb1.size; simp; omega))))
   exact H4.out _ hbB
  ·rw [hc] at HIC
   have HRU : Hid (∀ w1, Below w.heap.size w w1 -> Calls Tryz.prog 47 #[.pointer (some ⟨b, 0, none⟩), .agg #[.string (queX s).k, .string (queX s).n, .string (queX s).r]] w1 fun e w' => e = .returned (.bool (hasR xs (queX s))) /\ Below w1.heap.size w1 w') := fun w1 hb => hasR_any (h.to hb.block) hO
   cases hr : hasR xs (queX s)
   ·rw [hr] at HRU
    have H5 : Hid (∀ w', Below w.heap.size w w' -> CheckP xs now s w (.returned (.tuple #[.bool false, .int .i64 5])) w') := HNO.out 5 (by decide) (by rw [hok, hc, hr]; rfl)
    generalize CheckP xs now s w = P at *
    generalize queX s = x at *
    generalize queY s = y at *
    clear h hs hQ hO hok HNO HN HW hc hr
    go_enter Tryz.func21, Tryz.ntmps21
    go_wp2_with (first | (go_at_call 45; refine hrq.mono ?_; rintro e w1 ⟨rfl, hb1⟩) | (go_at_call 46; refine (HIC.out _).mono ?_; rintro e w2 ⟨rfl, hb2⟩; have hbB : Below w.heap.size w w2 := (hb1.alloc hb1.size _).trans (hb2.mono (by have := hb1.size; simp; omega)); have k0 := hb2.cell (p := ⟨w1.heap.size, 0, none⟩) (by simp); have k1 := hb2.cell (p := ⟨w1.heap.size, 1, none⟩) (by simp); have k2 := hb2.cell (p := ⟨w1.heap.size, 2, none⟩) (by simp)) | (go_at_call 47; refine (HRU.out _ hbB).mono ?_; rintro e w3 ⟨rfl, hb3⟩))
    exact H5.out _ (hbB.trans (hb3.mono hbB.size))
   ·rw [hr] at HRU
    have q := hQ hok hr
    have HAQ : Hid (∀ (wq : World) (qb : Nat), Below w.heap.size w wq -> wq.heap[qb]? = some (.cells (queL (queX s) (queY s)).toArray 77 (0, 0)) -> Calls Tryz.prog 42 #[.pointer (some ⟨b, 0, none⟩)] wq fun e w1 => ∃ tb, e = .returned (.pointer (some ⟨tb, 0, none⟩)) /\ w1.heap[qb]? = some (.cells (queL (queX s) (queY s)).toArray 77 (0, 0)) /\ Hid (∀ w1', Below w1.heap.size w1 w1' -> Calls Tryz.prog 43 #[.pointer (some ⟨tb, 0, none⟩), .agg #[.string (queX s).k, .string (queX s).n, .string (queX s).r]] w1' fun e w2 => ∃ wb, e = .returned (.pointer (some ⟨wb, 0, none⟩)) /\ w2.heap[qb]? = some (.cells (queL (queX s) (queY s)).toArray 77 (0, 0)) /\ Hid (∀ w2', Below w2.heap.size w2 w2' -> Calls Tryz.prog 48 #[.pointer (some ⟨wb, 0, none⟩), .agg #[.string (queY s).k, .string (queY s).n, .string (queY s).r]] w2' fun e w' => ∃ bo, e = .returned (.bool bo) /\ CheckP xs now s w (.returned (.tuple #[.bool bo, .int .i64 0])) w'))) := by
     intro wq qb hb hq
     refine (ask_q HN HW (h.to hb.block) q.ok q.th q.rU hq).mono ?_
     rintro e w1 ⟨tb, he, hq1, HC⟩
     refine ⟨tb, he, hq1, ?_⟩
     intro w1' hb1
     refine (HC.out w1' hb1).mono ?_
     rintro e w2 ⟨wb, he2, hq2, hA⟩
     refine ⟨wb, he2, hq2, ?_⟩
     intro w2' hb2
     refine (hA.out.has w2' hb2 (queY s) q.sz).mono ?_
     rintro e w' ⟨bo, he3, hiff, hbw⟩
     exact ⟨bo, he3, bo, 0, rfl, hb.trans (hbw.mono hb.size), by rw [hok, hc, hr]; rfl, hiff.trans ⟨fun e => ⟨rfl, e⟩, fun e => e.2⟩⟩
    generalize CheckP xs now s w = P at *
    clear q hQ hO
    generalize queX s = x at *
    generalize queY s = y at *
    clear h hs hok HNO HN HW hc hr
    go_enter Tryz.func21, Tryz.ntmps21
    go_wp2_with (first | (go_at_call 45; refine hrq.mono ?_; rintro e w1 ⟨rfl, hb1⟩) | (go_at_call 46; refine (HIC.out _).mono ?_; rintro e w2 ⟨rfl, hb2⟩; have hbB : Below w.heap.size w w2 := (hb1.alloc hb1.size _).trans (hb2.mono (by have := hb1.size; simp; omega)); have k0 := hb2.cell (p := ⟨w1.heap.size, 0, none⟩) (by simp); have k1 := hb2.cell (p := ⟨w1.heap.size, 1, none⟩) (by simp); have k2 := hb2.cell (p := ⟨w1.heap.size, 2, none⟩) (by simp); have hq2 : w2.heap[w1.heap.size]? = some (.cells (queL x y).toArray 77 (0, 0)) := (hb2.block _ (by simp)).trans (alloc_new w1 (queL x y) _)) | (go_at_call 47; refine (HRU.out _ hbB).mono ?_; rintro e w3 ⟨rfl, hb3⟩))
    have hbC : Below w.heap.size w w3 := hbB.trans (hb3.mono hbB.size)
    have hq3 : w3.heap[w1.heap.size]? = some (.cells (queL x y).toArray 77 (0, 0)) := (hb3.block _ (row_lt hq2)).trans hq2
    have HNW : Hid _ := HAQ.out w3.drew w1.heap.size hbC.drew hq3
    have l0 : w3.drew.cell? ⟨w1.heap.size, 0, none⟩ = some (.string x.k) := row_cell hq3 (j := 0) rfl
    have l1 : w3.drew.cell? ⟨w1.heap.size, 1, none⟩ = some (.string x.n) := row_cell hq3 (j := 1) rfl
    have l2 : w3.drew.cell? ⟨w1.heap.size, 2, none⟩ = some (.string x.r) := row_cell hq3 (j := 2) rfl
    have l3 : w3.drew.cell? ⟨w1.heap.size, 3, none⟩ = some (.string y.k) := row_cell hq3 (j := 3) rfl
    have l4 : w3.drew.cell? ⟨w1.heap.size, 4, none⟩ = some (.string y.n) := row_cell hq3 (j := 4) rfl
    have l5 : w3.drew.cell? ⟨w1.heap.size, 5, none⟩ = some (.string y.r) := row_cell hq3 (j := 5) rfl
    clear HAQ hq3 hq2 hbC hbB hb3 hb2 hb1 HIC HRU k0 k1 k2
    go_region_with (first | (go_at_call 42; refine (Calls.mono HNW.out) ?_; rintro e w4 ⟨tb, rfl, hq4, HWK⟩; have m0 := row_cell hq4 (j := 0) rfl; have m1 := row_cell hq4 (j := 1) rfl; have m2 := row_cell hq4 (j := 2) rfl; have m3 := row_cell hq4 (j := 3) rfl; have m4 := row_cell hq4 (j := 4) rfl; have m5 := row_cell hq4 (j := 5) rfl; clear hq4) | (go_at_call 43; refine (HWK.out _ (by repeat (first | exact Below.refl _ _ | refine Below.setCell ?_ (by first | exact Nat.le_refl _ | (simp; done) | (simp; omega)) _ | refine below_drewN ?_ _ | refine Below.drew ?_ | refine Below.alloc ?_ (by first | exact Nat.le_refl _ | (simp; done) | (simp; omega)) _))).mono ?_; rintro e w5 ⟨wb, rfl, hq5, HWH⟩; have p3 := row_cell hq5 (j := 3) rfl; have p4 := row_cell hq5 (j := 4) rfl; have p5 := row_cell hq5 (j := 5) rfl; clear hq5) | (go_at_call 48; refine (HWH.out _ (by repeat (first | exact Below.refl _ _ | refine Below.setCell ?_ (by first | exact Nat.le_refl _ | (simp; done) | (simp; omega)) _ | refine below_drewN ?_ _ | refine Below.drew ?_ | refine Below.alloc ?_ (by first | exact Nat.le_refl _ | (simp; done) | (simp; omega)) _))).mono ?_; rintro e w6 ⟨bo, rfl, hp⟩))
    all_goals go_wp2
    all_goals exact bodyPost_ret (v := .tuple #[.bool bo, .int .i64 0]) (by simp [results, Tryz.results21, go_sem]) rfl hp
theorem refCheck_any (HW : Hid RWhoC) {xs now : List ByteArray} (ok : DocOk xs now) {b : Nat} {g : Rg} {w : World} (h : DocAt xs now b g g.nowV w) (s : ByteArray) (hs : s.size <= maxLen) :
  Calls Tryz.prog 120 #[.pointer (some ⟨b, 0, none⟩), .string s] w (CheckP xs now s w) := by
 obtain ⟨nd, th, c, er, ha, hask⟩ := ask_ref ok h s hs
 have HNO : Hid (∀ er : Int, er ≠ 0 -> er = (if queOk s = false \/ queC s = false then 4 else if hasR xs (queX s) = false then 5 else 0) -> ∀ w', Below w.heap.size w w' -> CheckP xs now s w (.returned (.tuple #[.bool false, .int .i64 er])) w') := by
  intro er he0 he w' hb
  exact ⟨false, er, rfl, hb, he, ⟨(fun e => by cases e), fun e => absurd e.1 he0⟩⟩
 cases ha with
 | none h1 =>
  have H4 : Hid (∀ w', Below w.heap.size w w' -> CheckP xs now s w (.returned (.tuple #[.bool false, .int .i64 4])) w') := HNO.out 4 (by decide) (by rw [h1]; rfl)
  generalize CheckP xs now s w = P at *
  clear h hs HNO HW ok h1
  go_enter Tryz.func120, Tryz.ntmps120
  go_wp2_with (go_at_call 168; refine hask.mono ?_; rintro e w1 ⟨rfl, hb1⟩)
  exact H4.out _ hb1
 | free c h1 h2 h3 =>
  cases c with
  | true =>
   have H4 : Hid (∀ w', Below w.heap.size w w' -> CheckP xs now s w (.returned (.tuple #[.bool false, .int .i64 5])) w') := HNO.out 5 (by decide) (by rw [h1, h2, h3]; rfl)
   generalize CheckP xs now s w = P at *
   clear h hs HNO HW ok h1 h2 h3
   go_enter Tryz.func120, Tryz.ntmps120
   go_wp2_with (go_at_call 168; refine hask.mono ?_; rintro e w1 ⟨rfl, hb1⟩)
   exact H4.out _ hb1
  | false =>
   have H4 : Hid (∀ w', Below w.heap.size w w' -> CheckP xs now s w (.returned (.tuple #[.bool false, .int .i64 4])) w') := HNO.out 4 (by decide) (by rw [h2]; simp)
   generalize CheckP xs now s w = P at *
   clear h hs HNO HW ok h1 h2 h3
   go_enter Tryz.func120, Tryz.ntmps120
   go_wp2_with (go_at_call 168; refine hask.mono ?_; rintro e w1 ⟨rfl, hb1⟩)
   exact H4.out _ hb1
 | some t c k n r h1 h2 h3 nm h4 h5 =>
  cases c with
  | false =>
   have H4 : Hid (∀ w', Below w.heap.size w w' -> CheckP xs now s w (.returned (.tuple #[.bool false, .int .i64 4])) w') := HNO.out 4 (by decide) (by rw [h2]; simp)
   generalize CheckP xs now s w = P at *
   generalize txT (queX s) = nd at *
   clear h hs HNO HW ok h1 h2 h3 nm h4
   go_enter Tryz.func120, Tryz.ntmps120
   go_wp2_with (go_at_call 168; refine hask.mono ?_; rintro e w1 ⟨rfl, hb1⟩)
   exact H4.out _ hb1
  | true =>
   have h4e := h4 rfl
   clear h4
   have HWH : Hid (∀ w1, Below w.heap.size w w1 -> Calls Tryz.prog 169 #[.pointer (some ⟨b, 0, none⟩), g.nowV, .string (txT (queX s))] w1 fun e w2 => ∃ o n c, e = .returned (.slice o n c) /\ Hid (Calls Tryz.prog 170 #[.slice o n c, .string th] w2 fun e w3 => ∃ i : Int, e = .returned (.int .i64 i) /\ CheckP xs now s w (.returned (.tuple #[.bool (decide (0 <= i)), .int .i64 0])) w3)) := by
    intro w1 hb1
    refine (HW.out ok (h.below hb1) nm).mono ?_
    rintro e w2 ⟨o, c, zs, rfl, q1, q2, q3, q4, q5⟩
    refine ⟨o, _, c, rfl, ?_⟩
    have hb02 : Below w.heap.size w w2 := hb1.trans (q5.mono hb1.size)
    refine (index_any _ zs th w2 q1 (by have := big_max; omega)).mono ?_
    rintro e w3 ⟨rfl, hw3⟩
    subst w3
    refine ⟨_, rfl, _, 0, rfl, hb02, by rw [h1, h2, h3]; rfl, ?_⟩
    rw [decide_eq_true_iff, idx_str, q4, h4e]
    exact ⟨fun e => ⟨rfl, e⟩, fun e => e.2⟩
   have hg1 := row_cell h.rg (j := 1) rfl
   have hgl := row_lt h.rg
   obtain ⟨nx, nn, nc, hnv⟩ : ∃ x n c, g.nowV = .slice x n c := by
    rcases h.tv with ⟨e, -⟩ | ⟨b, off, cap, e, -⟩
    ·exact ⟨_, _, _, e⟩
    ·exact ⟨_, _, _, e⟩
   rw [hnv] at hg1 HWH
   generalize CheckP xs now s w = P at *
   generalize txT (queX s) = nd at *
   clear h hs HNO HW ok h1 h2 h3 nm h4e hnv
   go_enter Tryz.func120, Tryz.ntmps120
   go_wp2_with (first | (go_at_call 168; refine hask.mono ?_; rintro e w1 ⟨rfl, hb1⟩; have hg2 := (hb1.cell hgl).trans hg1) | (go_at_call 169; refine (HWH.out _ (by first | exact hb1 | exact hb1.drew)).mono ?_; rintro e w2 ⟨o, n, c, rfl, HX⟩) | (go_at_call 170; refine HX.out.mono ?_; rintro e w3 ⟨i, rfl, hp⟩))
   exact hp
theorem refCost_any (HN : Hid RNeedC) {xs now : List ByteArray} (ok : DocOk xs now) {b : Nat} {g : Rg} {w : World} (h : DocAt xs now b g g.nowV w) (s : ByteArray) (hs : s.size <= maxLen) :
  Calls Tryz.prog 121 #[.pointer (some ⟨b, 0, none⟩), .string s] w (CostP xs now s w) := by
 obtain ⟨nd, th, c, er, ha, hask⟩ := ask_ref ok h s hs
 have key : er ≠ 0 -> er = askE xs s -> Calls Tryz.prog 121 #[.pointer (some ⟨b, 0, none⟩), .string s] w (CostP xs now s w) := by
  intro he he2
  have HP : Hid (∀ w', Below w.heap.size w w' -> CostP xs now s w (.returned (.tuple #[.int .i64 0, .int .i64 er])) w') := fun w' hb => ⟨0, by rw [he2]; rfl, hb, by rw [if_neg (by rw [← he2]; exact he)]⟩
  have hne : (er != 0) = true := by simpa using he
  generalize CostP xs now s w = P at *
  clear h hs HN ok ha he he2
  go_enter Tryz.func121, Tryz.ntmps121
  go_wp2_with (go_at_call 168; refine hask.mono ?_; rintro e w1 ⟨rfl, hb1⟩)
  exact HP.out _ hb1
 cases ha with
 | none h1 => exact key (by decide) (if_pos h1).symm
 | free c h1 h2 h3 => exact key (by decide) (by unfold askE; rw [h1, h3]; rfl)
 | some t c k n r h1 h2 h3 nm h4 h5 =>
  have he : askE xs s = 0 := by unfold askE; rw [h1, h3]; rfl
  have HND : Hid (∀ w1, Below w.heap.size w w1 -> Calls Tryz.prog 171 #[.pointer (some ⟨b, 0, none⟩), g.nowV, .string (txT (queX s))] w1 fun e w2 => ∃ o, ∃ n : Nat, ∃ c, e = .returned (.slice o n c) /\ CostP xs now s w (.returned (.tuple #[.int .i64 n, .int .i64 0])) w2) := by
   intro w1 hb1
   refine (HN.out ok (h.below hb1) nm).mono ?_
   rintro e w2 ⟨o, c, met, rfl, q1, q2, q3, q4⟩
   exact ⟨o, met.length, c, rfl, met.length, by rw [he], hb1.trans (q4.mono hb1.size), by rw [if_pos he]; exact ⟨met, rfl, q1.nd, q1.gone.all, by omega⟩⟩
  have hg1 := row_cell h.rg (j := 1) rfl
  have hgl := row_lt h.rg
  obtain ⟨nx, nn, nc, hnv⟩ : ∃ x n c, g.nowV = .slice x n c := by
   rcases h.tv with ⟨e, -⟩ | ⟨b, off, cap, e, -⟩
   ·exact ⟨_, _, _, e⟩
   ·exact ⟨_, _, _, e⟩
  rw [hnv] at hg1 HND
  generalize CostP xs now s w = P at *
  generalize txT (queX s) = nd at *
  clear h hs HN ok h1 h2 h3 nm h4 hnv key he
  go_enter Tryz.func121, Tryz.ntmps121
  go_wp2_with (first | (go_at_call 168; refine hask.mono ?_; rintro e w1 ⟨rfl, hb1⟩; have hg2 := (hb1.cell hgl).trans hg1) | (go_at_call 171; refine (HND.out _ (by first | exact hb1 | exact hb1.drew)).mono ?_; rintro e w2 ⟨o, n, c, rfl, hp⟩))
  exact hp
theorem que_sizes (s : ByteArray) (hs : s.size <= maxLen) : okNd (queX s) := by
 have h0 : (rd0 s).rest.size = s.size := rfl
 have h1 := node_names (rd0 s)
 rw [h0] at h1
 refine ⟨Nat.le_trans h1.1 hs, ?_, Nat.le_trans h1.2 hs⟩
 have h2 := name_size (rd0 s)
 have h3 := must_size (rd0 s).name { data := #[58] }
 have h4 := nameOf_size ((rd0 s).name.must { data := #[58] }).rest
 have : (queX s).n.size <= ((rd0 s).name.must { data := #[58] }).rest.size := h4
 omega
theorem pair_doc {w : World} {B : Nat} {V : Int} {p : PS} (h : PairOk w B V p) : DocOk p.xs p.now /\ DocAt p.xs p.now p.rb p.r p.r.nowV w := by
 refine ⟨⟨fun y hy => ?_, h.few, fun s hs => ?_, h.nl⟩, ⟨h.rg, owns_rules h.rules, h.nv.strs⟩⟩
 ·obtain ⟨j, hj⟩ := List.mem_iff_getElem?.1 hy
  exact ok_all h.okx j y hj
 ·rw [← tuple_same]; exact (h.tup s hs).1
theorem pair_gate {w : World} {B : Nat} {V : Int} {p : PS} (h : PairOk w B V p) (s : ByteArray) (hs : s.size <= maxLen) : GateQ (relU p.xs p.now s) p.xs p.now p.gb p.g w := by
 obtain ⟨d, -⟩ := pair_doc h
 exact gateQ_of h.pg h.lk ⟨_, _, h.map, h.rmap⟩ h.tv h.nl h.few (fun y hy => (read_rule y (d.hv y hy)).1) d.ht s (que_sizes s hs).2.2
theorem stepPost_of {W w w' : World} {wb : Nat} {V : Int} {L : List PS} {pv l1 l3 : Value} {us ws : List Value} (hS : LSt W w wb V L pv l1 l3 us ws) (hb : Below w.heap.size w w') : StepPost W wb V L us (.returned (.bool true)) w' :=
 ⟨rfl, L, pv, l1, l3, us, ws, (hS.later hb).more (by omega), Nat.le_refl _, Nat.le_succ _, Nat.le_succ _⟩
theorem asks_check (HN : Hid NodeC) (HW : Hid TWayC) (HR : Hid RWhoC) {W w : World} {wb : Nat} {V : Int} {L : List PS} {pv l1 l3 : Value} {us ws : List Value} (hS : LSt W w wb V L pv l1 l3 us ws) {i : Nat} {p : PS} (hi : L[i]? = some p) (s : ByteArray) (hs : s.size <= maxLen) :
  Calls Tryz.prog 21 #[.pointer (some ⟨p.gb, 0, none⟩), .string s] w fun e w2 => ∃ (bo : Bool) (er : Int), e = .returned (.tuple #[.bool bo, .int .i64 er]) /\ Below w.heap.size w w2 /\
   ∀ w2', Below w2.heap.size w2 w2' -> Calls Tryz.prog 120 #[.pointer (some ⟨p.rb, 0, none⟩), .string s] w2' fun e w3 => e = .returned (.tuple #[.bool bo, .int .i64 er]) /\ StepPost W wb V L us (.returned (.bool true)) w3 := by
 have hp := hS.pairs p (List.mem_iff_getElem?.2 ⟨i, hi⟩)
 obtain ⟨dok, dat⟩ := pair_doc hp
 refine (check_any HN HW (pair_gate hp s hs) s hs (fun h _ => queOk_of h p.xs p.now) (que_sizes s hs)).mono ?_
 rintro e w2 ⟨bo, er, rfl, hb2, he, hbo⟩
 refine ⟨bo, er, rfl, hb2, fun w2' hb => ?_⟩
 have hb02 : Below w.heap.size w w2' := hb2.trans (hb.mono hb2.size)
 refine (refCheck_any HR dok (dat.below hb02) s hs).mono ?_
 rintro e w3 ⟨bo', er', rfl, hb3, he', hbo'⟩
 have e1 : er' = er := he'.trans he.symm
 have e2 : bo' = bo := by
  rw [e1] at hbo'
  cases bo <;> cases bo'
  ·rfl
  ·exact (hbo.2 (hbo'.1 rfl)).symm
  ·exact hbo'.2 (hbo.1 rfl)
  ·rfl
 exact ⟨by rw [e1, e2], stepPost_of hS (hb02.trans (hb3.mono hb02.size))⟩
theorem cost_same (er : Int) {n n' : Nat} {P : Nod -> Prop} (h : if er = 0 then ∃ met : List Nod, n = met.length /\ met.Nodup /\ (∀ y, y ∈ met ↔ P y) /\ met.length <= 32000000 else n = 0) (h' : if er = 0 then ∃ met : List Nod, n' = met.length /\ met.Nodup /\ (∀ y, y ∈ met ↔ P y) /\ met.length <= 32000000 else n' = 0) : n = n' := by
 by_cases h0 : er = 0
 ·rw [if_pos h0] at h h'
  obtain ⟨met, rfl, h1, h2, -⟩ := h
  obtain ⟨met', rfl, h1', h2', -⟩ := h'
  exact Nat.le_antisymm (nodup_sub_len _ _ h1 fun a ha => (h2' a).2 ((h2 a).1 ha)) (nodup_sub_len _ _ h1' fun a ha => (h2 a).2 ((h2' a).1 ha))
 ·rw [if_neg h0] at h h'
  rw [h, h']
theorem costP_out {xs now : List ByteArray} {s : ByteArray} {w : World} {e : Ending} {w' : World} (h : CostP xs now s w e w') : ∃ (k : Nat) (er : Int), er = askE xs s /\ e = .returned (.tuple #[.int .i64 k, .int .i64 er]) /\ Below w.heap.size w w' /\ (if er = 0 then ∃ met : List Nod, k = met.length /\ met.Nodup /\ (∀ y, y ∈ met ↔ Rch (tsOf now) (ruleN xs) (queX s) y) /\ met.length <= 32000000 else k = 0) := by
 unfold CostP at h
 generalize askE xs s = er at h ⊢
 obtain ⟨k, h⟩ := h
 exact ⟨k, er, rfl, h⟩
theorem cost_chain {xs now : List ByteArray} {s : ByteArray} {w : World} {gb rb : Nat} {Q : World -> Prop} (HG : Hid (Calls Tryz.prog 20 #[.pointer (some ⟨gb, 0, none⟩), .string s] w (CostP xs now s w))) (HF : Hid (∀ w', Below w.heap.size w w' -> Calls Tryz.prog 121 #[.pointer (some ⟨rb, 0, none⟩), .string s] w' (CostP xs now s w'))) (HP : Hid (∀ w', Below w.heap.size w w' -> Q w')) :
  Calls Tryz.prog 20 #[.pointer (some ⟨gb, 0, none⟩), .string s] w fun e w2 => ∃ (n er : Int), e = .returned (.tuple #[.int .i64 n, .int .i64 er]) /\ Below w.heap.size w w2 /\
   ∀ w2', Below w2.heap.size w2 w2' -> Calls Tryz.prog 121 #[.pointer (some ⟨rb, 0, none⟩), .string s] w2' fun e w3 => e = .returned (.tuple #[.int .i64 n, .int .i64 er]) /\ Q w3 := by
 refine HG.out.mono ?_
 intro e w2 hq
 obtain ⟨n, er, he, rfl, hb2, HQ⟩ := costP_out hq
 clear hq
 refine ⟨n, er, rfl, hb2, fun w2' hb => ?_⟩
 have hb02 : Below w.heap.size w w2' := hb2.trans (hb.mono hb2.size)
 refine (HF.out w2' hb02).mono ?_
 intro e w3 hr
 obtain ⟨n', er', he', rfl, hb3, HQ'⟩ := costP_out hr
 clear hr
 have e1 : er' = er := he'.trans he.symm
 clear he he'
 subst e1
 have e2 : n' = n := cost_same er' HQ' HQ
 subst e2
 exact ⟨rfl, HP.out w3 (hb02.trans (hb3.mono hb02.size))⟩
theorem asks_cost (HN : Hid NodeC) (HW : Hid TWayC) (HR : Hid RNeedC) {W w : World} {wb : Nat} {V : Int} {L : List PS} {pv l1 l3 : Value} {us ws : List Value} (hS : LSt W w wb V L pv l1 l3 us ws) {i : Nat} {p : PS} (hi : L[i]? = some p) (s : ByteArray) (hs : s.size <= maxLen) :
  Calls Tryz.prog 20 #[.pointer (some ⟨p.gb, 0, none⟩), .string s] w fun e w2 => ∃ (n er : Int), e = .returned (.tuple #[.int .i64 n, .int .i64 er]) /\ Below w.heap.size w w2 /\
   ∀ w2', Below w2.heap.size w2 w2' -> Calls Tryz.prog 121 #[.pointer (some ⟨p.rb, 0, none⟩), .string s] w2' fun e w3 => e = .returned (.tuple #[.int .i64 n, .int .i64 er]) /\ StepPost W wb V L us (.returned (.bool true)) w3 := by
 have hp := hS.pairs p (List.mem_iff_getElem?.2 ⟨i, hi⟩)
 obtain ⟨dok, dat⟩ := pair_doc hp
 have HG : Hid (Calls Tryz.prog 20 #[.pointer (some ⟨p.gb, 0, none⟩), .string s] w (CostP p.xs p.now s w)) := cost_any HN HW (pair_gate hp s hs) s hs (fun h _ => queOk_of h p.xs p.now) (que_sizes s hs)
 have HF : Hid (∀ w', Below w.heap.size w w' -> Calls Tryz.prog 121 #[.pointer (some ⟨p.rb, 0, none⟩), .string s] w' (CostP p.xs p.now s w')) := fun w' hb => refCost_any HR dok (dat.below hb) s hs
 have HP : Hid (∀ w', Below w.heap.size w w' -> StepPost W wb V L us (.returned (.bool true)) w') := fun w' hb => stepPost_of hS hb
 exact cost_chain HG HF HP
theorem asks_expand (HN : Hid NodeC) (HW : Hid TWayC) (HR : Hid RWhoC) {W w : World} {wb : Nat} {V : Int} {L : List PS} {pv l1 l3 : Value} {us ws : List Value} (hS : LSt W w wb V L pv l1 l3 us ws) {i : Nat} {p : PS} (hi : L[i]? = some p) (h1 : (us.length + 1) * 24 <= 140737488355328) (h3 : (3 * us.length + 3) * 24 <= 140737488355328) (hm : us.length <= 140737488355328) (s : ByteArray) (hs : s.size <= maxLen) :
  Calls Tryz.prog 40 #[.pointer (some ⟨p.gb, 0, none⟩), .string s] w fun e w2 => ∃ o n c, ∃ er : Int, e = .returned (.tuple #[.slice o n c, .int .i64 er]) /\ Below w.heap.size w w2 /\ (er = 0 \/ er ≠ 0 /\ o = none /\ n = 0 /\ c = 0) /\
   ∀ w2', Below w2.heap.size w2 w2' -> Calls Tryz.prog 122 #[.pointer (some ⟨p.rb, 0, none⟩), .string s] w2' fun e w3 => ∃ o' n' c', e = .returned (.tuple #[.slice o' n' c', .int .i64 er]) /\
    ∀ w3', Below w3.heap.size w3 w3' -> Calls Tryz.prog 77 #[.slice o n c, .slice o' n' c'] w3' fun e w4 => e = .returned (.bool true) /\
     ∀ w4', Below w4.heap.size w4 w4' -> Calls Tryz.prog 78 #[.pointer (some ⟨wb, 0, none⟩), .slice o n c] w4' fun e w5 => e = .returned (.tuple #[]) /\ StepPost W wb V L us (.returned (.bool true)) w5 := by
 have hp := hS.pairs p (List.mem_iff_getElem?.2 ⟨i, hi⟩)
 obtain ⟨dok, dat⟩ := pair_doc hp
 refine (expand_any HN HW (pair_gate hp s hs) s hs (fun h _ => queOk_of h p.xs p.now) (que_sizes s hs)).mono ?_
 rintro e w2 ⟨o, n, c, er, rfl, hb2, he, zs, rfl, hso, hzl, hown, hz⟩
 refine ⟨o, _, c, er, rfl, hb2, ?_, fun w2' hb => ?_⟩
 ·by_cases h0 : er = 0
  ·exact Or.inl h0
  ·rw [if_neg h0] at hz
   exact Or.inr ⟨h0, hz⟩
 have hb02 : Below w.heap.size w w2' := hb2.trans (hb.mono hb2.size)
 refine (refExpand_any HR dok (dat.below hb02) s hs).mono ?_
 rintro e w3 ⟨o', n', c', er', rfl, hb3, he', zs', rfl, hso', hzl', hst, hz'⟩
 have e1 : er' = er := he'.trans he.symm
 subst e1
 have hb03 : Below w.heap.size w w3 := hb02.trans (hb3.mono hb02.size)
 have e2 : zs' = zs := by
  by_cases h0 : er' = 0
  ·rw [if_pos h0] at hz hz'
   exact sorted_ext _ _ hso' hso fun s => (hz' s).trans (hz s).symm
  ·rw [if_neg h0] at hz hz'
   rw [hz']
   exact (List.eq_nil_of_length_eq_zero hz.2.1).symm
 subst e2
 refine ⟨o', _, c', rfl, fun w3' hb4 => ?_⟩
 have hb23 : Below w2.heap.size w2 w3 := hb.trans (hb3.mono hb.size)
 have hb24 : Below w2.heap.size w2 w3' := hb23.trans (hb4.mono hb23.size)
 have hml : zs'.length <= maxLen := by have := big_max; omega
 refine (same_any _ _ zs' zs' w3' (owns_strs (owns_below hown hb24)) (strs_below hst hb4) hml hml).mono ?_
 rintro e w4 ⟨rfl, hd⟩
 refine ⟨by simp [sameL], fun w4' hb5 => ?_⟩
 have hb25 : Below w2.heap.size w2 w4' := (hb24.trans ((below_draw hd).mono hb24.size)).trans (hb5.mono (Nat.le_trans hb24.size (below_draw hd).size))
 have hb05 : Below w.heap.size w w4' := hb2.trans (hb25.mono hb2.size)
 refine (law_takes hS hi (Calm.below hb05) (hS.below.trans (hb05.mono hS.below.size)) (pg_below hp.pg hb05) (rg_below hp.rg hb05) (owns_below hown hb25) hzl h1 (by rw [hS.three]; exact h3) hm).mono ?_
 rintro e w5 ⟨rfl, l1', l3', ws', h4⟩
 exact ⟨rfl, rfl, L, pv, l1', l3', _, ws', h4.more (by omega), Nat.le_refl _, Nat.le_succ _, by simp⟩
end Go.Proofs.YtalmoiogbdahcaaGreat
