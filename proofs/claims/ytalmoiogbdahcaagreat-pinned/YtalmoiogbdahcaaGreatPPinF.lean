import Derived.Test.YtalmoiogbdahcaaGreatPKrlB
import Derived.Test.YtalmoiogbdahcaaGreatPDskS
namespace Go.Proofs.YtalmoiogbdahcaaGreat
set_option maxRecDepth 100000
set_option maxHeartbeats 8000000
open Go.RowKit Go.Shelf
def pt0 (now : List ByteArray) (nd : ByteArray) : Tk := tkOf now nd 1000000 1000000000
def pt1 (now : List ByteArray) : Tk := tkOf now qzuB 5 1000000000
structure PnC (k a : Nat) (now : List ByteArray) (zs : List ByteArray) (c : Nat) : Prop where
 hk : k < 6
 hh : ∃ l, HeldT l now
 cost : CostN krules now (kNN k a) c
 c1 : 1 <= c
 c9 : c <= 7701
 so : Sorted zs
 zl : zs.length <= 50
 hz : ∀ z, z ∈ zs ↔ ∃ u, InN (tsOf now) krules u (kNN k a) /\ thT u = z
theorem PnC.h0 {k a : Nat} {now zs : List ByteArray} {c : Nat} (h : PnC k a now zs c) : CostN krules (pt0 now (kNd k a)).now (pt0 now (kNd k a)).x c := by
 show CostN krules now (queX (kNd k a)) c
 rw [(nd_ok h.hk a).2.1]; exact h.cost
theorem PnC.h1 {k a : Nat} {now zs : List ByteArray} {c : Nat} (h : PnC k a now zs c) : CostN krules (pt1 now).now (pt1 now).x 1 := by
 obtain ⟨l, hh⟩ := h.hh
 show CostN krules now (queX qzuB) 1
 rw [qzu_ok.2.1]; exact z_cost hh
theorem PnC.hx {k a : Nat} {now zs : List ByteArray} {c : Nat} (h : PnC k a now zs c) : (pt0 now (kNd k a)).x ≠ (pt1 now).x := by
 show queX (kNd k a) ≠ queX qzuB
 rw [qzu_ok.2.1, (nd_ok h.hk a).2.1]; exact kNN_z a
theorem PnC.hb {k a : Nat} {now zs : List ByteArray} {c : Nat} (h : PnC k a now zs c) : (c : Int) <= (pt0 now (kNd k a)).bud := by
 show (c : Int) <= 1000000
 have := h.c9
 omega
def PnF (W : World) (gb : Nat) (n : Int) (now : List ByteArray) (v : Value) (zs : List ByteArray) (P : Dk -> Prop) (w : World) : Prop := ∃ D, P D /\ PSt W gb n now D v zs w
theorem PnF.later {W : World} {gb : Nat} {n : Int} {now : List ByteArray} {v : Value} {zs : List ByteArray} {P : Dk -> Prop} {w w' : World} (h : PnF W gb n now v zs P w) (hb : Below w.heap.size w w') : PnF W gb n now v zs P w' := by
 obtain ⟨D, h1, h2⟩ := h
 exact ⟨D, h1, h2.later hb⟩
theorem PnF.below {W : World} {gb : Nat} {n : Int} {now : List ByteArray} {v : Value} {zs : List ByteArray} {P : Dk -> Prop} {w : World} (h : PnF W gb n now v zs P w) : Below W.heap.size W w := by
 obtain ⟨D, h1, h2⟩ := h
 exact h2.below
def PnA (t0 t1 : Tk) (c : Nat) (D : Dk) : Prop := ∃ a b o, PnS t0 t1 c a b o D
theorem pn_chain (HN : Hid NodeC) (HW : Hid TWayC) {w : World} {gb : Nat} {l now : List ByteArray} {w3 : World} (ht : TSt w gb 16 now (newD 3 6) false [] w3) (hh : HeldT l now) {k : Nat} (hk : k < 6) (a : Nat) (hnl : now.length <= 17) {rv : Value} {cs : List Int} (hr : IntsAt w rv cs) (hcs : ∀ c ∈ cs, -9223372036854775808 <= c /\ c <= 9223372036854775807) (hl : cs.length <= 9223372036854775807) :
  Calls Tryz.prog 19 #[.pointer (some ⟨gb, 0, none⟩), .string (kNd k a)] w3 fun e w4 => ∃ o c zs, e = .returned (.tuple #[.slice o zs.length c, .bool true]) /\
  Hid (Calls Tryz.prog 20 #[.pointer (some ⟨gb, 0, none⟩), .string (kNd k a)] w4 fun e w5 => ∃ n : Nat, e = .returned (.tuple #[.int .i64 n, .int .i64 0]) /\ 1 <= n /\ n <= 7701 /\ Hid (PnC k a now zs n) /\
  Hid (Calls Tryz.prog 27 #[.pointer (some ⟨gb, 0, none⟩), .string (kNd k a), .int .i64 1000000, .int .i64 1000000000] w5 fun e w6 => e = .returned (.tuple #[.int .i64 1, .int .i64 0]) /\
  Hid (Calls Tryz.prog 27 #[.pointer (some ⟨gb, 0, none⟩), .string qzuB, .int .i64 5, .int .i64 1000000000] w6 fun e w7 => e = .returned (.tuple #[.int .i64 2, .int .i64 0]) /\
  Hid (Calls Tryz.prog 15 #[.pointer (some ⟨gb, 0, none⟩), rv, .int .i64 15] w7 fun e w8 => ∃ o2 c2 n2, e = .returned (.tuple #[.slice o2 n2 c2, .bool true]) /\
   Hid (PnF w gb 31 (putN now (putL cs 15)) (.slice o zs.length c) zs (PnA (pt0 now (kNd k a)) (pt1 now) n) w8))))) := by
 obtain ⟨n1, n2, n3⟩ := nd_ok hk a
 refine (p_who HN HW ht hk a).mono ?_
 rintro e w4 ⟨o, c, zs, he4, hso, hzl, hz, hp4⟩
 refine ⟨o, c, zs, he4, ?_⟩
 refine (p_cost HN HW hp4 n3 n1).mono ?_
 rintro e w5 ⟨n, he5, hcn, -, hp5⟩
 rw [n2] at hcn
 obtain ⟨c1, c9⟩ := cost_small krules_sz (by omega) krules_rels hcn
 have hC : PnC k a now zs n := ⟨hk, ⟨l, hh⟩, hcn, c1, c9, hso, hzl, hz⟩
 obtain ⟨f1, f2, f3⟩ := PnS.first (t0 := pt0 now (kNd k a)) (t1 := pt1 now) n (by show (0 : Int) < 1000000000; decide) (by show (0 : Int) < 1000000000; decide)
 refine ⟨n, he5, c1, c9, hC, ?_⟩
 refine (p_submit HN hp5 (s := kNd k a) n3 n1 (bud := 1000000) (til := 1000000000) (by decide) (by decide) (by decide) (by decide) f1).mono ?_
 rintro e w6 ⟨he6, hp6⟩
 refine ⟨he6, ?_⟩
 refine (p_submit HN hp6 (s := qzuB) (by unfold maxLen; decide) qzu_ok.1 (bud := 5) (til := 1000000000) (by decide) (by decide) (by decide) (by decide) f2).mono ?_
 rintro e w7 ⟨he7, hp7⟩
 refine ⟨he7, ?_⟩
 refine (p_put hr hcs hl hp7 (by decide) 15 (by decide) (by omega)).mono ?_
 rintro e w8 ⟨o2, c2, he8, hp8⟩
 exact ⟨o2, c2, _, he8, _, ⟨_, _, _, f3⟩, hp8⟩
theorem pn_round (HW : Hid TWayC) {w : World} {gb : Nat} {k a : Nat} {now zs : List ByteArray} {n : Nat} (hC : PnC k a now zs n) {m : Int} {now2 : List ByteArray} {v : Value} {wr : World} (h : PnF w gb m now2 v zs (PnA (pt0 now (kNd k a)) (pt1 now) n) wr) {p : Nat} (hp : p < 3) :
  Calls Tryz.prog 28 #[.pointer (some ⟨gb, 0, none⟩), .int .i64 (p : Nat)] wr fun e w1 => e = .returned (.int .i64 0) /\
  Hid (Calls Tryz.prog 29 #[.pointer (some ⟨gb, 0, none⟩), .int .i64 1] w1 fun e w2 => ∃ (i1 : Int) (s1 : Nat), ∃ al1 o1 c1 m1, e = .returned (.agg #[.int .i64 i1, .int .i64 s1, .bool al1, .slice o1 m1 c1]) /\ s1 <= n /\ ((i1 = 3 /\ s1 = n) \/ ((i1 == (3 : Int)) = false /\ ((s1 : Int) == (n : Int)) = false)) /\ Hid (PnF w gb m now2 v zs (PnA (pt0 now (kNd k a)) (pt1 now) n) w2)) := by
 obtain ⟨D, ⟨x, y, o, hS⟩, hp0⟩ := h
 refine (p_step HW hp0 (i := p) (by rw [hS.wk]; exact hp)).mono ?_
 rintro e w1 ⟨he1, D1, hd1, hp1⟩
 refine ⟨he1, ?_⟩
 obtain ⟨x1, y1, o1, hS1, -⟩ := ps_step hC.h0 hC.hb hC.hx hC.h1 hp hS hd1
 refine (p_poll hp1 1).mono ?_
 rintro e w2 ⟨oo, cc, he2, -, -, hp2⟩
 have e1 : pollR D1 1 = x1 := pollR_at (D := D1) (n := 0) (by rw [hS1.rs]; rfl)
 obtain ⟨t1, t2⟩ := hS1.told hC.c1
 rw [e1] at he2
 refine ⟨_, _, _, _, _, _, he2, t1, ?_, D1, ⟨x1, y1, o1, hS1⟩, hp2⟩
 by_cases e3 : x1.is = 3
 ·exact Or.inl ⟨e3, t2.1 e3⟩
 ·refine Or.inr ⟨by rw [int_beq]; exact decide_eq_false e3, by rw [int_beq]; refine decide_eq_false fun e => e3 (t2.2 (by omega))⟩
theorem pn_turn (HW : Hid TWayC) {w : World} {gb : Nat} {k a : Nat} {now zs : List ByteArray} {n : Nat} (hC : PnC k a now zs n) {m : Int} {now2 : List ByteArray} {v : Value} {wr : World} {j : Nat} (h : PnF w gb m now2 v zs (PnR (pt0 now (kNd k a)) (pt1 now) n j) wr) :
  Calls Tryz.prog 28 #[.pointer (some ⟨gb, 0, none⟩), .int .i64 ((j % 3 : Nat) : Int)] wr fun e w1 => e = .returned (.int .i64 0) /\ Hid (PnF w gb m now2 v zs (PnR (pt0 now (kNd k a)) (pt1 now) n (j + 1)) w1) := by
 obtain ⟨D, hR, hp0⟩ := h
 obtain ⟨x, y, o, hS, -⟩ := hR.ex
 refine (p_step HW hp0 (i := j % 3) (by rw [hS.wk]; exact Nat.mod_lt _ (by decide))).mono ?_
 rintro e w1 ⟨he1, D1, hd1, hp1⟩
 exact ⟨he1, D1, hR.step hC.h0 hC.hb hC.hx hC.h1 hd1, hp1⟩
theorem pn_zero {t0 t1 : Tk} {c : Nat} {D : Dk} (h : PnA t0 t1 c D) : PnR t0 t1 c 0 D := by
 obtain ⟨x, y, o, hS⟩ := h
 exact ⟨x, y, o, hS, Or.inl rfl, fun v _ => by rw [if_neg (by omega)]; exact Nat.zero_le _, Or.inl rfl⟩
theorem pn_last (HW : Hid TWayC) {w : World} {gb : Nat} {t2 : Tk} {n : Nat} (hc : CostN krules t2.now t2.x n) (hb : 1 <= t2.bud) {m : Int} {now2 zs : List ByteArray} {v : Value} {wr : World} {j : Nat} (h : PnF w gb m now2 v zs (PnT t2 n j) wr) :
  Calls Tryz.prog 28 #[.pointer (some ⟨gb, 0, none⟩), .int .i64 0] wr fun e w1 => e = .returned (.int .i64 0) /\ Hid (PnF w gb m now2 v zs (PnT t2 n (j + 1)) w1) := by
 obtain ⟨D, hT, hp0⟩ := h
 have hl : 0 < D.wk.length := by
  obtain ⟨x, y, r, -, -, -, h | h | h⟩ := hT.ex
  ·rw [h.2.2]; decide
  ·rw [h.2.2.2.2]; decide
  ·rw [h.2.1]; decide
 refine (p_step HW hp0 (i := 0) hl).mono ?_
 rintro e w1 ⟨he1, D1, hd1, hp1⟩
 exact ⟨he1, D1, hT.step hc hb hd1, hp1⟩
theorem pn_poll3 {w : World} {gb : Nat} {now2 : List ByteArray} {nd : ByteArray} {least n : Nat} {m : Int} {zs : List ByteArray} {v : Value} {wr : World} (h : PnF w gb m now2 v zs (PnT (tkOf now2 nd least 1000000000) n (n + 2)) wr) :
  Calls Tryz.prog 29 #[.pointer (some ⟨gb, 0, none⟩), .int .i64 3] wr fun e w1 => ∃ (i1 : Int) (s1 : Nat), ∃ al1 o1 c1, ∃ m1 : Nat, e = .returned (.agg #[.int .i64 i1, .int .i64 s1, .bool al1, .slice o1 m1 c1]) /\ ((least < n /\ i1 = 4 /\ s1 = least /\ m1 = 0) \/ (¬ least < n /\ i1 = 3 /\ s1 = n)) /\ Hid (Below w.heap.size w w1) := by
 obtain ⟨D, hT, hp0⟩ := h
 refine (p_poll hp0 3).mono ?_
 rintro e w1 ⟨o, c, he, -, -, hp1⟩
 refine ⟨_, _, _, _, _, _, he, ?_, hp1.below⟩
 rcases hT.done with ⟨q1, q2, q3, q4⟩ | ⟨q1, q2, q3⟩
 ·have q1 : (least : Int) < n := q1
  have q3 : ((pollR D 3).st : Int) = (least : Int) := q3
  exact Or.inl ⟨by omega, q2, by omega, by rw [q4]; rfl⟩
 ·have q1 : (n : Int) <= least := q1
  exact Or.inr ⟨by omega, q2, q3⟩
theorem pn_end (HN : Hid NodeC) (HW : Hid TWayC) {w : World} {gb : Nat} {k a : Nat} {now zs : List ByteArray} {n : Nat} (hC : PnC k a now zs n) {m : Int} {now2 : List ByteArray} (hn2 : now2.length <= 50) {v : Value} {wr : World} (h : PnF w gb m now2 v zs (PnR (pt0 now (kNd k a)) (pt1 now) n (3 * n + 9)) wr) :
  Calls Tryz.prog 29 #[.pointer (some ⟨gb, 0, none⟩), .int .i64 1] wr fun e w1 => ∃ al1 o1 c1, e = .returned (.agg #[.int .i64 3, .int .i64 n, .bool al1, .slice o1 zs.length c1]) /\
  Hid (Calls Tryz.prog 29 #[.pointer (some ⟨gb, 0, none⟩), .int .i64 2] (w1.alloc (.cells #[.int .i64 3, .int .i64 n, .bool al1, .slice o1 zs.length c1] 51)) fun e w2 => ∃ o2 c2 m2, e = .returned (.agg #[.int .i64 3, .int .i64 1, .bool true, .slice o2 m2 c2]) /\ (w2.alloc (.cells #[.int .i64 3, .int .i64 1, .bool true, .slice o2 m2 c2] 51)).cell? ⟨w1.heap.size, 3, none⟩ = some (.slice o1 zs.length c1) /\ w2.cell? ⟨w1.heap.size, 3, none⟩ = some (.slice o1 zs.length c1) /\ w1.heap.size < w2.heap.size /\
  Hid (Calls Tryz.prog 25 #[.slice o1 zs.length c1, v] (w2.alloc (.cells #[.int .i64 3, .int .i64 1, .bool true, .slice o2 m2 c2] 51)) fun e w3 => e = .returned (.bool true) /\ w3.cell? ⟨w1.heap.size, 0, none⟩ = some (.int .i64 3) /\ w3.cell? ⟨w1.heap.size, 1, none⟩ = some (.int .i64 n) /\ w3.cell? ⟨w2.heap.size, 0, none⟩ = some (.int .i64 3) /\ w3.cell? ⟨w2.heap.size, 1, none⟩ = some (.int .i64 1) /\ w3.cell? ⟨w2.heap.size, 2, none⟩ = some (.bool true) /\
  Hid (Calls Tryz.prog 20 #[.pointer (some ⟨gb, 0, none⟩), .string (kNd k a)] w3 fun e w4 => ∃ c : Nat, e = .returned (.tuple #[.int .i64 c, .int .i64 0]) /\ 1 <= c /\ c <= 7701 /\ Hid (CostN krules now2 (queX (kNd k a)) c) /\
  Hid (∀ least : Nat, 1 <= least -> least <= 1000 -> Calls Tryz.prog 27 #[.pointer (some ⟨gb, 0, none⟩), .string (kNd k a), .int .i64 least, .int .i64 1000000000] w4 fun e w5 => e = .returned (.tuple #[.int .i64 3, .int .i64 0]) /\ Hid (PnF w gb m now2 v zs (PnT (tkOf now2 (kNd k a) least 1000000000) c 0) w5))))) := by
 obtain ⟨D, hR, hp0⟩ := h
 obtain ⟨x, y, hS, hx3, hy3⟩ := hR.done
 obtain ⟨n1, n2, n3⟩ := nd_ok hC.hk a
 have e1 : pollR D 1 = x := pollR_at (D := D) (n := 0) (by rw [hS.rs]; rfl)
 have e2 : pollR D 2 = y := pollR_at (D := D) (n := 1) (by rw [hS.rs]; rfl)
 have hxs : x.st = n /\ x.us = zs := by
  rcases hS.ha with ⟨e, -⟩ | ⟨e, -⟩ | ⟨-, -, q1, q2, -⟩
  ·rw [e] at hx3; cases hx3
  ·rw [e] at hx3; cases hx3
  ·exact ⟨q1, ans_who hC.hk a q2 hC.so hC.hz⟩
 have hys : y.st = 1 /\ y.al = true := by
  obtain ⟨l, hh⟩ := hC.hh
  rcases hS.hb with e | ⟨-, -, q1, q2⟩
  ·rw [e] at hy3; cases hy3
  ·exact ⟨q1, ans_z hh q2⟩
 refine (p_poll hp0 1).mono ?_
 rintro e w1 ⟨o1, c1, he1, how1, hb1, hp1⟩
 rw [e1, hx3, hxs.1, hxs.2] at he1
 rw [e1, hxs.2] at how1
 refine ⟨_, o1, c1, he1, ?_⟩
 have s3 : ∀ (v : World) (o : Obj), (v.alloc o).heap.size = v.heap.size + 1 := fun v o => by show (v.heap.push _).size = _; simp
 have ba : ∀ (v : World) (o : Obj), Below v.heap.size v (v.alloc o) := fun v o => (Below.refl _ _).alloc (Nat.le_refl _) _
 generalize x.al = al1
 have hr1 : (w1.alloc (.cells #[.int .i64 3, .int .i64 n, .bool al1, .slice o1 zs.length c1] 51)).heap[w1.heap.size]? = some (.cells (stL 3 n al1 (.slice o1 zs.length c1)).toArray 51 (0, 0)) := alloc_new w1 (stL 3 n al1 (.slice o1 zs.length c1)) _
 have hu1 : StrT (w1.alloc (.cells #[.int .i64 3, .int .i64 n, .bool al1, .slice o1 zs.length c1] 51)) (.slice o1 zs.length c1) zs := (StrK.of_below (ba w1 _)).strT (owns_strT how1)
 have hz1 := s3 w1 (.cells #[.int .i64 3, .int .i64 n, .bool al1, .slice o1 zs.length c1] 51)
 have hp1' := hp1.later (ba w1 (.cells #[.int .i64 3, .int .i64 n, .bool al1, .slice o1 zs.length c1] 51))
 generalize w1.alloc (.cells #[.int .i64 3, .int .i64 n, .bool al1, .slice o1 zs.length c1] 51) = w1' at *
 refine (p_poll hp1' 2).mono ?_
 rintro e w2 ⟨o2, c2, he2, -, hb2, hp2⟩
 rw [e2, hy3, hys.1, hys.2] at he2
 generalize y.us.length = m2 at he2
 have hr2 := (hb2.block _ (row_lt hr1)).trans hr1
 have hu2 := (StrK.of_below hb2).strT hu1
 have hb3 := ba w2 (.cells #[.int .i64 3, .int .i64 1, .bool true, .slice o2 m2 c2] 51)
 have hr3 := (hb3.block _ (row_lt hr2)).trans hr2
 have hq3 : (w2.alloc (.cells #[.int .i64 3, .int .i64 1, .bool true, .slice o2 m2 c2] 51)).heap[w2.heap.size]? = some (.cells (stL 3 1 true (.slice o2 m2 c2)).toArray 51 (0, 0)) := alloc_new w2 (stL 3 1 true (.slice o2 m2 c2)) _
 have hu3 := (StrK.of_below hb3).strT hu2
 have hp3 := hp2.later hb3
 have hsz : w1.heap.size < w2.heap.size := by have := hb2.size; omega
 refine ⟨o2, c2, m2, he2, row_cell hr3 (j := 3) rfl, row_cell hr2 (j := 3) rfl, hsz, ?_⟩
 refine (g_same hu3 hp3.row (by have := hC.zl; omega)).mono ?_
 rintro e w3 ⟨he3, hb4⟩
 have hr4 := (hb4.block _ (row_lt hr3)).trans hr3
 have hq4 := (hb4.block _ (row_lt hq3)).trans hq3
 have hp4 := hp3.later hb4
 refine ⟨he3, row_cell hr4 (j := 0) rfl, row_cell hr4 (j := 1) rfl, row_cell hq4 (j := 0) rfl, row_cell hq4 (j := 1) rfl, row_cell hq4 (j := 2) rfl, ?_⟩
 refine (p_cost HN HW hp4 n3 n1).mono ?_
 rintro e w4 ⟨c, he4, hcn, -, hp5⟩
 obtain ⟨d1, d9⟩ := cost_small krules_sz hn2 krules_rels hcn
 refine ⟨c, he4, d1, d9, hcn, ?_⟩
 intro least l1 l2
 obtain ⟨f1, f2, f3⟩ := hS.third hx3 hy3 (tkOf now2 (kNd k a) least 1000000000) c (by show (0 : Int) < 1000000000; decide)
 refine (p_submit HN hp5 (s := kNd k a) n3 n1 (bud := least) (til := 1000000000) (by omega) (by omega) (by decide) (by decide) f1).mono ?_
 rintro e w5 ⟨he5, hp6⟩
 rw [f2] at he5
 exact ⟨he5, _, f3, hp6⟩
theorem pickM (m : Nat) (hm : 0 < m) (hm2 : m <= 1000) (x : Int) (h1 : -9223372036854775808 <= x) (h2 : x <= 9223372036854775807) : ∃ k : Nat, k < m /\ ∀ w1, Calls Tryz.prog 17 #[.int .i64 x, .int .i64 (m : Nat)] w1 fun e w' => e = .returned (.int .i64 (k : Nat)) /\ w' = w1 := by
 obtain ⟨b1, b2⟩ := pickN_bd x (m : Nat) (by omega)
 have hpk := fun w1 => kPick_any x (m : Nat) w1 h1 h2 (by omega) (by omega)
 obtain ⟨f, hf⟩ := Int.eq_ofNat_of_zero_le b1
 rw [hf] at hpk b2
 exact ⟨f, by omega, hpk⟩
theorem pn_least (pk : Nat) : ((pk + 1 : Nat) : Int) = 1 + (pk : Int) := by omega
theorem pn_poll4 {w : World} {gb : Nat} {now2 : List ByteArray} {nd : ByteArray} {pk n : Nat} {m : Int} {zs : List ByteArray} {v : Value} {wr : World} (h : PnF w gb m now2 v zs (PnT (tkOf now2 nd (1 + (pk : Int)) 1000000000) n (n + 2)) wr) :
  Calls Tryz.prog 29 #[.pointer (some ⟨gb, 0, none⟩), .int .i64 3] wr fun e w1 => ∃ (i1 : Int) (s1 : Int), ∃ al1 o1 c1, ∃ m1 : Nat, e = .returned (.agg #[.int .i64 i1, .int .i64 s1, .bool al1, .slice o1 m1 c1]) /\ ((pk + 1 < n /\ i1 = 4 /\ s1 = 1 + (pk : Int) /\ m1 = 0) \/ (¬ pk + 1 < n /\ i1 = 3 /\ s1 = (n : Int))) /\ Hid (Below w.heap.size w w1) := by
 rw [← pn_least] at h
 refine (pn_poll3 h).mono ?_
 rintro e w1 ⟨i1, s1, al, o, c, m1, he, hor, hb⟩
 refine ⟨i1, s1, al, o, c, m1, he, ?_, hb⟩
 rcases hor with ⟨q1, q2, q3, q4⟩ | ⟨q1, q2, q3⟩
 ·exact Or.inl ⟨q1, q2, by rw [q3]; exact pn_least pk, q4⟩
 ·exact Or.inr ⟨q1, q2, by rw [q3]⟩
theorem pinned_any (HN : Hid NodeC) (HW : Hid TWayC) {w : World} {rv : Value} {cs : List Int} (hr : IntsAt w rv cs) (hcs : ∀ c ∈ cs, -9223372036854775808 <= c /\ c <= 9223372036854775807) (hl : cs.length <= 9223372036854775807) {lv : Value} {ls : List Int} (hlr : IntsAt w lv ls) (hls : ∀ c ∈ ls, -9223372036854775808 <= c /\ c <= 9223372036854775807) (hll : ls.length <= 9223372036854775807) {sv : Value} {ss : List Int} (hsr : IntsAt w sv ss) (hss : ∀ c ∈ ss, -9223372036854775808 <= c /\ c <= 9223372036854775807) (hsl : ss.length <= 9223372036854775807) (wh : Int) (hw1 : -9223372036854775808 <= wh) (hw2 : wh <= 9223372036854775807) (bu : Int) (hb1 : -9223372036854775808 <= bu) (hb2 : bu <= 9223372036854775807) :
  Calls Tryz.prog 12 #[rv, lv, sv, .int .i64 wh, .int .i64 bu] w fun e w' => e = .returned (.bool true) /\ Below w.heap.size w w' := by
 have HOP : Hid (Calls Tryz.prog 14 #[.int .i64 3, .int .i64 6] w fun e w' => ∃ gb, e = .returned (.pointer (some ⟨gb, 0, none⟩)) /\ TSt w gb 1 know0 (newD 3 6) false [] w') := t_open HN HW w 3 6 (by decide) (by decide) (by decide) (by decide)
 have HPT : Hid (∀ gb w1, TSt w gb 1 know0 (newD 3 6) false [] w1 -> Calls Tryz.prog 15 #[.pointer (some ⟨gb, 0, none⟩), rv, .int .i64 15] w1 fun e w2 => ∃ o n c, e = .returned (.tuple #[.slice o n c, .bool true]) /\ Hid (TSt w gb 16 (putN know0 (putL cs 15)) (newD 3 6) false [] w2)) := by
  intro gb w1 h
  refine (t_put hr hcs hl h (by decide) 15 (by decide) (by decide)).mono ?_
  rintro e w2 ⟨o, c, rfl, ht, -⟩
  exact ⟨o, _, c, rfl, ht⟩
 have HHT : Hid (∀ gb w1, TSt w gb 16 (putN know0 (putL cs 15)) (newD 3 6) false [] w1 -> HeldT (putL cs 15) (putN know0 (putL cs 15))) := fun gb w1 h => t_heldT h (putL_ks cs 15)
 have hnl : (putN know0 (putL cs 15)).length <= 17 := by
  have h1 := (putN_ok (putL cs 15) know0 know0_sorted).2.1
  have h2 := putL_len cs 15
  have h3 : know0.length = 2 := rfl
  omega
 obtain ⟨k, a, hk, hnd⟩ := kNodeU wh hw1 hw2
 have HND : Hid (∀ w1, Calls Tryz.prog 22 #[.int .i64 wh] w1 fun e w' => e = .returned (.string (kNd k a)) /\ Below w1.heap.size w1 w') := hnd
 have HCH : Hid (∀ gb w3, TSt w gb 16 (putN know0 (putL cs 15)) (newD 3 6) false [] w3 -> Calls Tryz.prog 19 #[.pointer (some ⟨gb, 0, none⟩), .string (kNd k a)] w3 _) := fun gb w3 h => pn_chain HN HW h (HHT.out gb w3 h) hk a hnl hlr hls hll
 obtain ⟨pk, hpk, hpick⟩ := pickM 40 (by decide) (by decide) bu hb1 hb2
 have HPB : Hid (∀ w1, Calls Tryz.prog 17 #[.int .i64 bu, .int .i64 40] w1 fun e w' => e = .returned (.int .i64 (pk : Nat)) /\ w' = w1) := hpick
 have hn2 : (putN (putN know0 (putL cs 15)) (putL ls 15)).length <= 50 := by
  have h0 := (putN_ok (putL cs 15) know0 know0_sorted).1
  have h1 := (putN_ok (putL ls 15) _ h0).2.1
  have h2 := putL_len ls 15
  omega
 have hrv : ∃ x n c, rv = .slice x n c := by
  rcases hr with ⟨⟨x, c, rfl⟩, -⟩ | ⟨b, off, cap, rfl, -⟩
  ·exact ⟨_, _, _, rfl⟩
  ·exact ⟨_, _, _, rfl⟩
 obtain ⟨rx, rn, rc, rfl⟩ := hrv
 have hlv : ∃ x n c, lv = .slice x n c := by
  rcases hlr with ⟨⟨x, c, rfl⟩, -⟩ | ⟨b, off, cap, rfl, -⟩
  ·exact ⟨_, _, _, rfl⟩
  ·exact ⟨_, _, _, rfl⟩
 obtain ⟨lx, ln, lc, rfl⟩ := hlv
 obtain ⟨sx, sc, hsv, HC⟩ : ∃ sx sc, sv = .slice sx ss.length sc /\ Hid (∀ (i : Nat) (c : Int), ss[i]? = some c -> ∃ b off, sx = some ⟨b, off, none⟩ /\ b < w.heap.size /\ w.cell? ⟨b, off + i, none⟩ = some (.int .i64 c)) := by
  rcases hsr with ⟨⟨x, c, rfl⟩, rfl⟩ | ⟨b, off, cap, rfl, hb, hc⟩
  ·exact ⟨x, c, rfl, fun i c h => by simp at h⟩
  ·exact ⟨_, cap, rfl, fun i c h => ⟨b, off, rfl, hb, hc i c h⟩⟩
 subst hsv
 have HSS : Hid (∀ c ∈ ss, -9223372036854775808 <= c /\ c <= 9223372036854775807) := hss
 obtain ⟨N, hN⟩ : ∃ N, ss.length = N := ⟨_, rfl⟩
 have HNN : Hid (ss.length = N) := hN
 rw [hN] at hsl ⊢
 have HRD : Hid (∀ gb now zs n m now2 v wr p, PnC k a now zs n -> PnF w gb m now2 v zs (PnA (pt0 now (kNd k a)) (pt1 now) n) wr -> p < 3 -> Calls Tryz.prog 28 #[.pointer (some ⟨gb, 0, none⟩), .int .i64 (p : Nat)] wr _) := fun gb now zs n m now2 v wr p hC h hp => pn_round HW hC h hp
 have HTU : Hid (∀ gb now zs n m now2 v wr j, PnC k a now zs n -> PnF w gb m now2 v zs (PnR (pt0 now (kNd k a)) (pt1 now) n j) wr -> Calls Tryz.prog 28 #[.pointer (some ⟨gb, 0, none⟩), .int .i64 ((j % 3 : Nat) : Int)] wr _) := fun gb now zs n m now2 v wr j hC h => pn_turn HW hC h
 have HEN : Hid (∀ gb now zs n m now2 v wr, PnC k a now zs n -> now2.length <= 50 -> PnF w gb m now2 v zs (PnR (pt0 now (kNd k a)) (pt1 now) n (3 * n + 9)) wr -> Calls Tryz.prog 29 #[.pointer (some ⟨gb, 0, none⟩), .int .i64 1] wr _) := fun gb now zs n m now2 v wr hC h1 h2 => pn_end HN HW hC h1 h2
 have HLA : Hid (∀ gb now2 c m zs v wr j, CostN krules now2 (queX (kNd k a)) c -> PnF w gb m now2 v zs (PnT (tkOf now2 (kNd k a) (1 + (pk : Int)) 1000000000) c j) wr -> Calls Tryz.prog 28 #[.pointer (some ⟨gb, 0, none⟩), .int .i64 0] wr _) := fun gb now2 c m zs v wr j hc h => pn_last HW (t2 := tkOf now2 (kNd k a) (1 + (pk : Int)) 1000000000) hc (by show (1 : Int) <= 1 + (pk : Int); omega) h
 have HP3 : Hid (∀ gb now2 c m zs v wr, PnF w gb m now2 v zs (PnT (tkOf now2 (kNd k a) (1 + (pk : Int)) 1000000000) c (c + 2)) wr -> Calls Tryz.prog 29 #[.pointer (some ⟨gb, 0, none⟩), .int .i64 3] wr _) := fun gb now2 c m zs v wr h => pn_poll4 h
 have HN2 : Hid ((putN (putN know0 (putL cs 15)) (putL ls 15)).length <= 50) := hn2
 clear hr hcs hl hw1 hw2 hsr hss hnd hk HHT HN HW hN hlr hls hll hb1 hb2 hpick hnl hn2
 unfold qzuB at HCH
 generalize kNd k a = nd at *
 generalize putN know0 (putL cs 15) = now at *
 generalize putN now (putL ls 15) = now2 at *
 go_enter Tryz.func12, Tryz.ntmps12
 go_wp2_with (first
  | (go_at_call 14; refine HOP.out.mono ?_; rintro e w1 ⟨gb, rfl, ht⟩; have HT1 : Hid (TSt w gb 1 know0 (newD 3 6) false [] w1) := ht; clear ht HOP)
  | (go_at_call 15; refine (HPT.out gb _ HT1.out).mono ?_; rintro e w2 ⟨po, pn, pc, rfl, HT2⟩; clear HPT HT1)
  | (go_at_call 22; refine (HND.out _).mono ?_; rintro e w3 ⟨rfl, hb3⟩; have HS1 : Hid _ := HCH.out gb w3 (HT2.out.later hb3); clear HND HT2 hb3 HCH)
  | (go_at_call 19; refine (Calls.mono HS1.out) ?_; rintro e w4 ⟨wo, wc, zs, rfl, HS2⟩; clear HS1)
  | (go_at_call 20; refine (Calls.mono HS2.out) ?_; rintro e w5 ⟨n, rfl, hn1, hn9, HCC, HS3⟩; clear HS2)
  | (go_at_call 27; refine (Calls.mono HS3.out) ?_; rintro e w6 ⟨rfl, HS4⟩; clear HS3)
  | (go_at_call 27; refine (Calls.mono HS4.out) ?_; rintro e w7 ⟨rfl, HS5⟩; clear HS4)
  | (go_at_call 15; refine (Calls.mono HS5.out) ?_; rintro e w8 ⟨o2, c2, m2, rfl, HF⟩; clear HS5))
 go_loopw [23] (fun i wr => ∃ j : Nat, j <= N /\ j <= 60 /\ i = .int .i64 j /\ PnF w gb 31 now2 (.slice wo zs.length wc) zs (PnA (pt0 now nd) (pt1 now) n) wr) (fun i _ => 60 - (intOf i).toNat)
 case atStart => exact ⟨0, Nat.zero_le _, Nat.zero_le _, rfl, HF.out⟩
 case round =>
  obtain ⟨j, hjN, hj6, rfl, hF⟩ := hrel
  have HFR : Hid (PnF w gb 31 now2 (.slice wo zs.length wc) zs (PnA (pt0 now nd) (pt1 now) n) wr) := hF
  clear hF HF
  by_cases hboth : j < N /\ j < 60
  ·obtain ⟨hlt, hl6⟩ := hboth
   obtain ⟨c, hc⟩ : ∃ c, ss[j]? = some c := ⟨_, List.getElem?_eq_getElem (by have := HNN.out; omega)⟩
   obtain ⟨sb, off, hsx, hsb, hcell0⟩ := HC.out j c hc
   subst hsx
   have hcell : wr.cell? ⟨sb, off + j, none⟩ = some (.int .i64 c) := (HFR.out.below.cell (p := ⟨sb, off + j, none⟩) hsb).trans hcell0
   obtain ⟨hc1, hc2⟩ := HSS.out c (List.mem_of_getElem? hc)
   obtain ⟨p, hp, hpk2⟩ := pickM 3 (by decide) (by decide) c hc1 hc2
   have HPK : Hid (∀ w1, Calls Tryz.prog 17 #[.int .i64 c, .int .i64 3] w1 fun e w' => e = .returned (.int .i64 (p : Nat)) /\ w' = w1) := hpk2
   have HR1 : Hid _ := HRD.out gb now zs n 31 now2 _ wr p HCC.out HFR.out hp
   clear hc hcell0 hpk2 HFR HRD HC HSS hc1 hc2 HTU HEN HLA HP3 HPB HN2 HCC
   go_wp2_with (first
    | (go_at_call 17; refine (HPK.out _).mono ?_; rintro e w13 ⟨rfl, hw13⟩; subst w13)
    | (go_at_call 28; refine (Calls.mono HR1.out) ?_; rintro e w14 ⟨rfl, HR2⟩; clear HR1)
    | (go_at_call 29; refine (Calls.mono HR2.out) ?_; rintro e w15 ⟨i1, s1, al1, o1, c1, m1, rfl, hs1, hor, HF2⟩; clear HR2; rcases hor with ⟨rfl, hs2⟩ | ⟨hi1, hs2⟩ <;> try subst s1))
   all_goals
    go_roundw
    case rel => exact ⟨j + 1, by omega, by omega, by go_num, HF2.out.later ((Below.refl _ _).alloc (Nat.le_refl _) _)⟩
    case measure => simp [intOf]; omega
  ·have HF1 : Hid (PnF w gb 31 now2 (.slice wo zs.length wc) zs (PnR (pt0 now nd) (pt1 now) n 0) wr) := by
    obtain ⟨D, h1, h2⟩ := HFR.out
    exact ⟨D, pn_zero h1, h2⟩
   have hor : ¬ j < N \/ (j < N /\ ¬ j < 60) := by omega
   clear HFR HRD HC HSS HNN hboth
   rcases hor with hlt | ⟨hlt, hl6⟩
   all_goals
    go_wp2
    go_loopw [27] (fun i w9 => ∃ q : Nat, i = .int .i64 q /\ q <= 3 * n + 9 /\ PnF w gb 31 now2 (.slice wo zs.length wc) zs (PnR (pt0 now nd) (pt1 now) n q) w9) (fun i _ => 3 * n + 9 - (intOf i).toNat)
    case atStart => exact ⟨0, rfl, Nat.zero_le _, HF1.out⟩
    case round =>
     obtain ⟨q, rfl, hq, hF2⟩ := hrel
     have HG : Hid (PnF w gb 31 now2 (.slice wo zs.length wc) zs (PnR (pt0 now nd) (pt1 now) n q) wr) := hF2
     clear hF2 HF1
     by_cases hlt2 : q < 3 * n + 9
     ·have hrem : (q : Int).tmod 3 = ((q % 3 : Nat) : Int) := rem_nat q 3
      have HR1 : Hid _ := HTU.out gb now zs n 31 now2 _ wr q HCC.out HG.out
      clear HG HTU HEN HLA HP3 HPB HN2 HCC
      go_wp2_with (go_at_call 28; refine (Calls.mono HR1.out) ?_; rintro e w14 ⟨rfl, HG2⟩; clear HR1)
      go_roundw
      case rel => exact ⟨q + 1, by go_num, by omega, HG2.out⟩
      case measure => simp [intOf]; omega
     ·have hqe : q = 3 * n + 9 := by omega
      have HE1 : Hid _ := HEN.out gb now zs n 31 now2 _ wr HCC.out HN2.out (hqe ▸ HG.out)
      clear HG HTU HEN HN2 HCC
      have HQE : Hid (q = 3 * n + 9) := hqe
      clear hqe
      go_wp2_with (first
       | (go_at_call 29; refine (Calls.mono HE1.out) ?_; rintro e w10 ⟨al1, o1, c1, rfl, HE2⟩; clear HE1)
       | (go_at_call 29; refine (Calls.mono HE2.out) ?_; rintro e w11 ⟨o3, c3, m3, rfl, f3, f3', hsz, HE3⟩; clear HE2)
       | (go_at_call 25; refine (Calls.mono HE3.out) ?_; rintro e w12 ⟨rfl, g1, g2, g3, g4, g5, HE4⟩; clear HE3)
       | (go_at_call 20; refine (Calls.mono HE4.out) ?_; rintro e w13 ⟨cn, rfl, hcn1, hcn9, HCN, HE5⟩; clear HE4)
       | (go_at_call 17; refine (HPB.out _).mono ?_; rintro e w14 ⟨rfl, hw14⟩; subst w14; have HE6 : Hid (Calls _ _ #[_, _, .int .i64 (1 + (pk : Int)), _] _ _) := (pn_least pk) ▸ HE5.out (pk + 1) (by omega) (by omega); clear HE5)
       | (go_at_call 27; refine (Calls.mono HE6.out) ?_; rintro e w15 ⟨rfl, HG3⟩; clear HE6))
      go_loopw [37] (fun i w9 => ∃ t : Nat, i = .int .i64 t /\ t <= cn + 2 /\ PnF w gb 31 now2 (.slice wo zs.length wc) zs (PnT (tkOf now2 nd (1 + (pk : Int)) 1000000000) cn t) w9) (fun i _ => cn + 2 - (intOf i).toNat)
      case atStart => exact ⟨0, rfl, Nat.zero_le _, HG3.out⟩
      case round =>
       obtain ⟨t, rfl, ht, hF4⟩ := hrel
       have HG4 : Hid (PnF w gb 31 now2 (.slice wo zs.length wc) zs (PnT (tkOf now2 nd (1 + (pk : Int)) 1000000000) cn t) wr) := hF4
       clear hF4 HG3
       by_cases hlt3 : t < cn + 2
       ·have HR1 : Hid _ := HLA.out gb now2 cn 31 zs _ wr t HCN.out HG4.out
        clear HG4 HLA HP3 HCN
        go_wp2_with (go_at_call 28; refine (Calls.mono HR1.out) ?_; rintro e w16 ⟨rfl, HG5⟩; clear HR1)
        go_roundw
        case rel => exact ⟨t + 1, by go_num, by omega, HG5.out⟩
        case measure => simp [intOf]; omega
       ·have hte : t = cn + 2 := by omega
        have HL1 : Hid _ := HP3.out gb now2 cn 31 zs _ wr (hte ▸ HG4.out)
        clear HG4 HLA HP3 HCN hte
        go_wp2_with (go_at_call 29; refine (Calls.mono HL1.out) ?_; rintro e w17 ⟨i1, s1, al5, o5, c5, m5, rfl, hor, HB⟩; clear HL1; rcases hor with ⟨hlc, rfl, rfl, rfl⟩ | ⟨hlc, rfl, rfl⟩)
        all_goals
         go_ret
         exact ⟨rfl, HB.out.trans ((Below.refl _ _).alloc HB.out.size _)⟩
end Go.Proofs.YtalmoiogbdahcaaGreat
