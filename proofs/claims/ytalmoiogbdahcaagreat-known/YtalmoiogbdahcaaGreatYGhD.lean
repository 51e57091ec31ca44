import Derived.Test.YtalmoiogbdahcaaGreatYGhA
import Derived.Test.YtalmoiogbdahcaaGreatYLibE
namespace Go.Proofs.YtalmoiogbdahcaaGreat
set_option maxRecDepth 100000
set_option maxHeartbeats 8000000
open Go.RowKit
structure Pg where
 lk : Int
 mb : Nat
 tv : Value
 ver : Int
 dk : Value
 cl : Bool
def Pg.cells (g : Pg) : List Value := [.int .i32 g.lk, .int .u32 0, .map (some g.mb), g.tv, .int .i64 g.ver, g.dk, .bool g.cl]
def PgAt (w : World) (b : Nat) (g : Pg) : Prop := w.heap[b]? = some (.cells g.cells.toArray 99 (0, 0))
theorem isSigned_any (s : ByteArray) (w : World) : Calls Tryz.prog 97 #[.string s] w fun e w' => e = .returned (.bool (preB s { data := #[43] } || preB s { data := #[45] })) /\ w' = w := by
 have h1 := fun w => prefix_any s { data := #[43] } w
 have h2 := fun w => prefix_any s { data := #[45] } w
 cases hb : preB s { data := #[43] }
 ·rw [hb] at h1
  go_enter Tryz.func97, Tryz.ntmps97
  go_wp2_with (first | (go_at_call 152; refine (h1 _).mono ?_; clear h1; rintro e w1 ⟨rfl, hw1⟩; subst w1) | (go_at_call 152; refine (h2 _).mono ?_; rintro e w1 ⟨rfl, hw1⟩; subst w1))
  go_ret
  exact ⟨rfl, rfl⟩
 ·rw [hb] at h1
  go_enter Tryz.func97, Tryz.ntmps97
  go_wp2_with (first | (go_at_call 152; refine (h1 _).mono ?_; clear h1; rintro e w1 ⟨rfl, hw1⟩; subst w1))
  go_ret
  exact ⟨rfl, rfl⟩
theorem head_any (k n r : ByteArray) (w : World) : Calls Tryz.prog 92 #[.agg #[.string k, .string n, .string r]] w fun e w' => e = .returned (.agg #[.string k, .string r]) /\ Below w.heap.size w w' := by
 go_enter Tryz.func92, Tryz.ntmps92
 go_wp2
 exact bodyPost_ret (v := .agg #[.string k, .string r]) (by simp [results, Tryz.results92, go_sem]) rfl ⟨rfl, by repeat (first | exact Below.refl _ _ | refine Below.setCell ?_ (by first | exact Nat.le_refl _ | (simp; done) | (simp; omega)) _ | refine below_drewN ?_ _ | refine Below.drew ?_ | refine Below.alloc ?_ (by first | exact Nat.le_refl _ | (simp; done) | (simp; omega)) _)⟩
theorem isThing_any (k n r : ByteArray) (w : World) : Calls Tryz.prog 99 #[.agg #[.string k, .string n, .string r]] w fun e w' => e = .returned (.bool (decide (r.size = 0))) /\ Below w.heap.size w w' := by
 by_cases h : r.size = 0
 ·have he := empty_is r h
  rw [decide_eq_true h]
  go_enter Tryz.func99, Tryz.ntmps99
  go_wp2
  go_ret
  exact ⟨rfl, by repeat (first | exact Below.refl _ _ | refine Below.setCell ?_ (by first | exact Nat.le_refl _ | (simp; done) | (simp; omega)) _ | refine below_drewN ?_ _ | refine Below.drew ?_ | refine Below.alloc ?_ (by first | exact Nat.le_refl _ | (simp; done) | (simp; omega)) _)⟩
 ·have he := empty_not r (by omega)
  rw [decide_eq_false h]
  go_enter Tryz.func99, Tryz.ntmps99
  go_wp2
  go_ret
  exact ⟨rfl, by repeat (first | exact Below.refl _ _ | refine Below.setCell ?_ (by first | exact Nat.le_refl _ | (simp; done) | (simp; omega)) _ | refine below_drewN ?_ _ | refine Below.drew ?_ | refine Below.alloc ?_ (by first | exact Nat.le_refl _ | (simp; done) | (simp; omega)) _)⟩
theorem lt_two (w : World) (a c : Obj) : w.heap.size + 1 < ((w.alloc a).alloc c).drew.heap.size := by
 show _ < ((w.heap.push a).push c).size
 simp
def AllWays (m : List (Value × Value)) : Prop := ∀ p ∈ m, ∃ is a b x n c, p.2 = .agg #[.int .i64 is, .string a, .string b, .slice x n c]
theorem getD_way {m : List (Value × Value)} (h : AllWays m) (k : Value) : ∃ is a b x n c, (getM m k).getD (.agg #[.int .i64 0, .string { data := #[] }, .string { data := #[] }, .slice none 0 0]) = .agg #[.int .i64 is, .string a, .string b, .slice x n c] := by
 cases hg : getM m k with
 | none => exact ⟨_, _, _, _, _, _, rfl⟩
 | some v => exact h (k, v) (getM_mem hg)
theorem RMap.ways {w : World} {lo : Nat} {xs : List ByteArray} {m : List (Value × Value)} (h : RMap w lo xs m) : AllWays m := by
 intro p hp
 obtain ⟨i, hi⟩ := List.mem_iff_getElem?.1 hp
 have hil := (List.getElem?_eq_some_iff.1 hi).1
 rw [h.len] at hil
 exact (h.way i _ _ (List.getElem?_eq_getElem hil) hi).agg
theorem hasRule_any (b : Nat) (g : Pg) (m : List (Value × Value)) (ha : AllWays m) (k n r : ByteArray) (hk : k.size <= maxLen) (hr : r.size <= maxLen) (w : World) (hg : PgAt w b g) (hm : MapAt w HeadG g.mb m) :
  Calls Tryz.prog 47 #[.pointer (some ⟨b, 0, none⟩), .agg #[.string k, .string n, .string r]] w fun e w' => e = .returned (.bool (getM m (headV k r)).isSome) /\ Below w.heap.size w w' := by
 have h2 := row_cell hg (j := 2) rfl
 have h2a := fun o => row_cell (alloc_row hg o) (j := 2) rfl
 have hl : b < w.heap.size := row_lt hg
 have HM : Hid (MapAt w HeadG g.mb m) := hm
 obtain ⟨zi, za, zb, zx, zn, zc, hz⟩ := getD_way ha (headV k r)
 have HLK : Hid (∀ w2, Below w.heap.size w w2 -> (Instr.lookup 96 (.map (some g.mb)) (.agg #[.string k, .string r]) true).run Tryz.prog w2 = .ok (.tuple #[.agg #[.int .i64 zi, .string za, .string zb, .slice zx zn zc], .bool (getM m (headV k r)).isSome]) w2) := by
  intro w2 hb2
  rw [← hz]
  exact (map_look head_ok Tryz.underlying96 (HM.out.move (hb2.block _ HM.out.lt)) ⟨k, r, rfl, hk, hr⟩ (Tryz.zeroWay w2)).1
 clear hz
 generalize (getM m (headV k r)).isSome = ok at *
 have HG : Hid (PgAt w b g) := hg
 clear hm hg
 go_enter Tryz.func47, Tryz.ntmps47
 go_wp2
 go_region_with (go_at_call 92; refine (head_any k n r _).mono ?_; rintro e w1 ⟨rfl, hb1⟩; have hbb : Below w.heap.size w w1 := Below.trans (by repeat (first | exact Below.refl _ _ | refine Below.setCell ?_ (by first | exact Nat.le_refl _ | (simp; done) | (simp; omega)) _ | refine below_drewN ?_ _ | refine Below.drew ?_ | refine Below.alloc ?_ (by first | exact Nat.le_refl _ | (simp; done) | (simp; omega)) _)) (hb1.mono (by simp <;> omega)); have hlk := HLK.out w1 hbb; have hlk2 := fun o => HLK.out (w1.alloc o) (hbb.alloc hbb.size _); have h2b := (hbb.cell (p := ⟨b, 2, none⟩) hl).trans h2; have h2c := fun o => (World.cell?_of_block (a := ⟨b, 2, none⟩) (Below.heap_alloc w1 o b (Nat.lt_of_lt_of_le hl hbb.size))).trans h2b; first | (have hcc := fun o => hb1.cell (p := ⟨w.heap.size + 1, o, none⟩) (lt_two w _ _); have hff := fun o => hb1.frozen (p := ⟨w.heap.size + 1, o, none⟩) (lt_two w _ _)) | skip)
 all_goals go_wp2
 all_goals go_ret
 all_goals refine ⟨rfl, ?_⟩
 all_goals have hsz := hbb.size
 all_goals repeat (first | exact hbb | refine Below.setCell ?_ (by first | exact hsz | (simp <;> omega)) _ | refine Below.drew ?_ | refine Below.alloc ?_ (by first | exact hsz | (simp <;> omega)) _)
theorem nameOf_size (s : ByteArray) : (nameOf s).size <= s.size := by
 unfold nameOf; split
 ·simp; omega
 ·exact Nat.zero_le _
theorem thing_names (q : Rd) : (thingOf q).kind.size <= q.rest.size /\ (thingOf q).rel.size <= q.rest.size := by
 have e1 : (thingOf q).kind = nameOf q.rest := rfl
 have e2 : (thingOf q).rel = { data := #[] } := rfl
 rw [e1, e2]
 exact ⟨nameOf_size _, Nat.zero_le _⟩
theorem node_names (q : Rd) : (nodeOf q).kind.size <= q.rest.size /\ (nodeOf q).rel.size <= q.rest.size := by
 have e1 : (nodeOf q).kind = (thingOf q).kind := rfl
 have e2 : (nodeOf q).rel = nameOf (q.thing.must { data := #[35] }).rest := rfl
 rw [e1, e2]
 have h1 := must_size q.thing { data := #[35] }
 have h2 := thing_size q
 have h3 := nameOf_size (q.thing.must { data := #[35] }).rest
 exact ⟨(thing_names q).1, by omega⟩
theorem subject_names (q : Rd) : (subjectOf q).kind.size <= q.rest.size /\ (subjectOf q).rel.size <= q.rest.size := by
 unfold subjectOf
 split
 ·have h1 := sees_size q.thing { data := #[35] }
  have h2 := thing_size q
  have h3 := nameOf_size (q.thing.sees { data := #[35] }).rest
  exact ⟨(thing_names q).1, by show (nameOf (q.thing.sees { data := #[35] }).rest).size <= _; omega⟩
 ·exact thing_names q
theorem tup_sizes (t : ByteArray) : (tupNode t).kind.size <= t.size /\ (tupNode t).rel.size <= t.size /\ (tupSubj t).kind.size <= t.size /\ (tupSubj t).rel.size <= t.size := by
 have h0 : (rd0 t).rest.size = t.size := rfl
 have hn := node_size (rd0 t)
 have hm := must_size (rd0 t).node { data := #[64] }
 have h1 := node_names (rd0 t)
 have h2 := subject_names ((rd0 t).node.must { data := #[64] })
 unfold tupNode tupSubj
 rw [h0] at h1 hn
 exact ⟨h1.1, h1.2, by omega, by omega⟩
theorem faultOf_any (b : Nat) (g : Pg) (m : List (Value × Value)) (ha : AllWays m) (x : ByteArray) (hx : x.size <= 140737488355328) (w : World) (hg : PgAt w b g) (hm : MapAt w HeadG g.mb m) :
  Calls Tryz.prog 53 #[.pointer (some ⟨b, 0, none⟩), .string x] w fun e w' => e = .returned (.int .i64 (faultG m x)) /\ Below w.heap.size w w' := by
 have hsi := fun w => isSigned_any x w
 have HR : Hid (∀ (k n r : ByteArray), k.size <= maxLen -> r.size <= maxLen -> ∀ w1, Below w.heap.size w w1 -> Calls Tryz.prog 47 #[.pointer (some ⟨b, 0, none⟩), .agg #[.string k, .string n, .string r]] w1 fun e w' => e = .returned (.bool (getM m (headV k r)).isSome) /\ Below w1.heap.size w1 w') :=
  fun k n r hk hr w1 hb => hasRule_any b g m ha k n r hk hr w1 (by unfold PgAt; rw [hb.block b (row_lt hg)]; exact hg) (hm.move (hb.block _ hm.lt))
 clear hg hm ha
 unfold faultG
 cases hsg : (preB x { data := #[43] } || preB x { data := #[45] })
 ·rw [hsg] at hsi
  rw [if_pos rfl]
  go_enter Tryz.func53, Tryz.ntmps53
  go_wp2_with (go_at_call 97; refine (hsi _).mono ?_; rintro e w1 ⟨rfl, hw1⟩; subst w1)
  go_ret
  exact ⟨rfl, Below.refl _ _⟩
 ·rw [hsg] at hsi
  rw [if_neg (by decide)]
  have hx1 : 1 <= x.size := by
   by_cases h0 : x.size = 0
   ·have := (signed_same x).2 (Or.inl h0)
    rw [hsg] at this; cases this
   ·omega
  have hts : (x.extract 1 x.size).size <= maxLen := by unfold maxLen; simp; omega
  have hrt := fun w => readTuple_any (x.extract 1 x.size) w hts
  obtain ⟨z1, z2, z3, z4⟩ := tup_sizes (x.extract 1 x.size)
  clear hsg
  unfold tupVal at hrt
  cases hok : tupOk (x.extract 1 x.size)
  ·rw [hok] at hrt
   rw [if_pos rfl]
   simp only [Bool.false_eq_true, if_false] at hrt
   clear HR z1 z2 z3 z4 hts hok
   go_enter Tryz.func53, Tryz.ntmps53
   go_wp2_with (first | (go_at_call 97; refine (hsi _).mono ?_; rintro e w1 ⟨rfl, hw1⟩; subst w1) | (go_at_call 98; refine (hrt _).mono ?_; rintro e w2 ⟨rfl, hb2⟩))
   go_ret
   exact ⟨rfl, hb2.alloc hb2.size _⟩
  ·rw [hok] at hrt
   rw [if_neg (by decide)]
   simp only [if_true] at hrt
   clear hok
   have HN : Hid (∀ w1, Below w.heap.size w w1 -> Calls Tryz.prog 47 #[.pointer (some ⟨b, 0, none⟩), .agg #[.string (tupNode (x.extract 1 x.size)).kind, .string (tupNode (x.extract 1 x.size)).name, .string (tupNode (x.extract 1 x.size)).rel]] w1 fun e w' => e = .returned (.bool (getM m (headV (tupNode (x.extract 1 x.size)).kind (tupNode (x.extract 1 x.size)).rel)).isSome) /\ Below w1.heap.size w1 w') := fun w1 hb => HR.out _ _ _ (Nat.le_trans z1 hts) (Nat.le_trans z2 hts) w1 hb
   have HS : Hid (∀ w1, Below w.heap.size w w1 -> Calls Tryz.prog 47 #[.pointer (some ⟨b, 0, none⟩), .agg #[.string (tupSubj (x.extract 1 x.size)).kind, .string (tupSubj (x.extract 1 x.size)).name, .string (tupSubj (x.extract 1 x.size)).rel]] w1 fun e w' => e = .returned (.bool (getM m (headV (tupSubj (x.extract 1 x.size)).kind (tupSubj (x.extract 1 x.size)).rel)).isSome) /\ Below w1.heap.size w1 w') := fun w1 hb => HR.out _ _ _ (Nat.le_trans z3 hts) (Nat.le_trans z4 hts) w1 hb
   clear HR z1 z2 z3 z4 hts
   generalize (getM m (headV (tupNode (x.extract 1 x.size)).kind (tupNode (x.extract 1 x.size)).rel)).isSome = f1 at *
   generalize (getM m (headV (tupSubj (x.extract 1 x.size)).kind (tupSubj (x.extract 1 x.size)).rel)).isSome = f2 at *
   generalize (tupNode (x.extract 1 x.size)).kind = a1 at *
   generalize (tupNode (x.extract 1 x.size)).name = a2 at *
   generalize (tupNode (x.extract 1 x.size)).rel = a3 at *
   generalize (tupSubj (x.extract 1 x.size)).kind = b1 at *
   generalize (tupSubj (x.extract 1 x.size)).name = b2 at *
   generalize (tupSubj (x.extract 1 x.size)).rel = b3 at *
   have hth := fun w => isThing_any b1 b2 b3 w
   cases f1
   ·rw [if_pos (Or.inl rfl)]
    clear HS hth
    go_enter Tryz.func53, Tryz.ntmps53
    go_wp2_with (first | (go_at_call 97; refine (hsi _).mono ?_; rintro e w1 ⟨rfl, hw1⟩; subst w1) | (go_at_call 98; refine (hrt _).mono ?_; rintro e w2 ⟨rfl, hb2⟩) | (go_at_call 47; refine (HN.out _ (hb2.alloc hb2.size _)).mono ?_; rintro e w3 ⟨rfl, hb3⟩))
    go_ret
    exact ⟨rfl, (hb2.alloc hb2.size _).trans (hb3.mono (by simp; exact Nat.le_succ_of_le hb2.size))⟩
   ·by_cases hz : b3.size = 0
    ·rw [if_neg (by rintro (h | h); cases h; exact h.1 hz)]
     rw [decide_eq_true hz] at hth
     clear HS hz
     go_enter Tryz.func53, Tryz.ntmps53
     go_wp2_with (first | (go_at_call 97; refine (hsi _).mono ?_; rintro e w1 ⟨rfl, hw1⟩; subst w1) | (go_at_call 98; refine (hrt _).mono ?_; rintro e w2 ⟨rfl, hb2⟩) | (go_at_call 47; refine (HN.out _ (hb2.alloc hb2.size _)).mono ?_; rintro e w3 ⟨rfl, hb3⟩; have HT3 : Hid (w3.heap[w2.heap.size]? = _) := (hb3.block w2.heap.size (by simp)).trans (alloc_new w2 [.string a1, .string a2, .string a3, .string b1, .string b2, .string b3] _); have k3 := row_cell HT3.out (j := 3) rfl; have k4 := row_cell HT3.out (j := 4) rfl; have k5 := row_cell HT3.out (j := 5) rfl; have hbb3 : Below w.heap.size w w3 := (hb2.alloc hb2.size _).trans (hb3.mono (by simp; exact Nat.le_succ_of_le hb2.size))) | (go_at_call 99; refine (hth _).mono ?_; rintro e w4 ⟨rfl, hb4⟩))
     go_ret
     exact ⟨rfl, hbb3.trans (hb4.mono hbb3.size)⟩
    ·rw [decide_eq_false hz] at hth
     have HF : Hid ((if true = false \/ (b3.size ≠ 0 /\ f2 = false) then (5 : Int) else 0) = if f2 = false then 5 else 0) := by
      show _ = _
      cases f2 <;> simp [hz]
     rw [HF.out]
     clear hz HF
     cases f2
     ·go_enter Tryz.func53, Tryz.ntmps53
      go_wp2_with (first | (go_at_call 97; refine (hsi _).mono ?_; rintro e w1 ⟨rfl, hw1⟩; subst w1) | (go_at_call 98; refine (hrt _).mono ?_; rintro e w2 ⟨rfl, hb2⟩) | (go_at_call 47; refine (HN.out _ (hb2.alloc hb2.size _)).mono ?_; rintro e w3 ⟨rfl, hb3⟩; clear HN; have HT3 : Hid (w3.heap[w2.heap.size]? = _) := (hb3.block w2.heap.size (by simp)).trans (alloc_new w2 [.string a1, .string a2, .string a3, .string b1, .string b2, .string b3] _); have k3 := row_cell HT3.out (j := 3) rfl; have k4 := row_cell HT3.out (j := 4) rfl; have k5 := row_cell HT3.out (j := 5) rfl; have hbb3 : Below w.heap.size w w3 := (hb2.alloc hb2.size _).trans (hb3.mono (by simp; exact Nat.le_succ_of_le hb2.size))) | (go_at_call 99; refine (hth _).mono ?_; rintro e w4 ⟨rfl, hb4⟩; have HT4 : Hid (w4.heap[w2.heap.size]? = _) := (hb4.block w2.heap.size (row_lt HT3.out)).trans HT3.out; have j3 := row_cell HT4.out (j := 3) rfl; have j4 := row_cell HT4.out (j := 4) rfl; have j5 := row_cell HT4.out (j := 5) rfl; have hbb4 := hbb3.trans (hb4.mono hbb3.size)) | (go_at_call 47; refine (HS.out _ hbb4).mono ?_; rintro e w5 ⟨rfl, hb5⟩))
      go_ret
      exact ⟨rfl, hbb4.trans (hb5.mono hbb4.size)⟩
     ·go_enter Tryz.func53, Tryz.ntmps53
      go_wp2_with (first | (go_at_call 97; refine (hsi _).mono ?_; rintro e w1 ⟨rfl, hw1⟩; subst w1) | (go_at_call 98; refine (hrt _).mono ?_; rintro e w2 ⟨rfl, hb2⟩) | (go_at_call 47; refine (HN.out _ (hb2.alloc hb2.size _)).mono ?_; rintro e w3 ⟨rfl, hb3⟩; clear HN; have HT3 : Hid (w3.heap[w2.heap.size]? = _) := (hb3.block w2.heap.size (by simp)).trans (alloc_new w2 [.string a1, .string a2, .string a3, .string b1, .string b2, .string b3] _); have k3 := row_cell HT3.out (j := 3) rfl; have k4 := row_cell HT3.out (j := 4) rfl; have k5 := row_cell HT3.out (j := 5) rfl; have hbb3 : Below w.heap.size w w3 := (hb2.alloc hb2.size _).trans (hb3.mono (by simp; exact Nat.le_succ_of_le hb2.size))) | (go_at_call 99; refine (hth _).mono ?_; rintro e w4 ⟨rfl, hb4⟩; have HT4 : Hid (w4.heap[w2.heap.size]? = _) := (hb4.block w2.heap.size (row_lt HT3.out)).trans HT3.out; have j3 := row_cell HT4.out (j := 3) rfl; have j4 := row_cell HT4.out (j := 4) rfl; have j5 := row_cell HT4.out (j := 5) rfl; have hbb4 := hbb3.trans (hb4.mono hbb3.size)) | (go_at_call 47; refine (HS.out _ hbb4).mono ?_; rintro e w5 ⟨rfl, hb5⟩))
      go_ret
      exact ⟨rfl, hbb4.trans (hb5.mono hbb4.size)⟩
end Go.Proofs.YtalmoiogbdahcaaGreat
