import Derived.Test.YtalmoiogbdahcaaGreatYLawP
import Derived.Test.YtalmoiogbdahcaaGreatYRefS
import Derived.Maps.AppendAt
namespace Go.Proofs.YtalmoiogbdahcaaGreat
set_option maxRecDepth 100000
set_option maxHeartbeats 8000000
open Go.RowKit Go.Shelf
theorem lawAsks_check (HN : Hid NodeC) (HW : Hid TWayC) (HR : Hid RWhoC) {W w : World} {wb : Nat} {V : Int} {L : List PS} {pv l1 l3 : Value} {us ws : List Value} (hS : LSt W w wb V L pv l1 l3 us ws) {i : Nat} {p : PS} (hi : L[i]? = some p) (g n m : Int) (s : ByteArray) (tv : Value) (hs : s.size <= maxLen) :
  Calls Tryz.prog 79 #[.pointer (some ⟨wb, 0, none⟩), .pointer (some ⟨p.pb, 0, none⟩), opV 4 g n m s tv] w (StepPost W wb V L us) := by
 have hb0 : Below w.heap.size w (w.alloc (opO 4 g n m s tv)) := (Below.refl _ _).alloc (Nat.le_refl _) _
 have hb : Below w.heap.size w (w.alloc (opO 4 g n m s tv)).drew := hb0.drew
 have hp := (hS.later hb).pairs p (List.mem_iff_getElem?.2 ⟨i, hi⟩)
 have HC : Hid (Calls Tryz.prog 21 #[.pointer (some ⟨p.gb, 0, none⟩), .string s] (w.alloc (opO 4 g n m s tv)).drew _) := asks_check HN HW HR (hS.later hb) hi s hs
 have hp0 : (w.alloc (opO 4 g n m s tv)).cell? ⟨p.pb, 0, none⟩ = some (.pointer (some ⟨p.gb, 0, none⟩)) := row_cell hp.pair (j := 0) rfl
 have hp1 : (w.alloc (opO 4 g n m s tv)).cell? ⟨p.pb, 1, none⟩ = some (.pointer (some ⟨p.rb, 0, none⟩)) := row_cell hp.pair (j := 1) rfl
 have hp0' : (w.alloc (opO 4 g n m s tv)).drew.cell? ⟨p.pb, 0, none⟩ = some (.pointer (some ⟨p.gb, 0, none⟩)) := hp0
 have hpl : p.pb < (w.alloc (opO 4 g n m s tv)).drew.heap.size := cell_lt hp0
 have hp1e : (w.alloc (opO 4 g n m s tv)).drew.cell? ⟨p.pb, 1, none⟩ = some (.pointer (some ⟨p.rb, 0, none⟩)) := hp1
 have ho4 : (w.alloc (opO 4 g n m s tv)).cell? ⟨w.heap.size, 4, none⟩ = some (.string s) := row_cell (alloc_new w [.int .i64 4, .int .i64 g, .int .i64 n, .int .i64 m, .string s, tv] _) (j := 4) rfl
 have ho4e : (w.alloc (opO 4 g n m s tv)).drew.cell? ⟨w.heap.size, 4, none⟩ = some (.string s) := ho4
 have hol : w.heap.size < (w.alloc (opO 4 g n m s tv)).drew.heap.size := cell_lt ho4
 clear hS hb hi hp HN HW HR hb0
 unfold opO at hp0 hp1 hp0' hp1e hpl ho4 ho4e hol HC
 unfold opV
 go_enter Tryz.func79, Tryz.ntmps79
 go_wp2
 go_region_with (go_at_call 21; refine HC.out.mono ?_; rintro e w2 ⟨bo, er, rfl, hb2, hq⟩; have HQ : Hid (∀ w2', Below w2.heap.size w2 w2' -> Calls Tryz.prog 120 #[.pointer (some ⟨p.rb, 0, none⟩), .string s] w2' _) := hq; have hk1 : w2.cell? ⟨p.pb, 1, none⟩ = some (.pointer (some ⟨p.rb, 0, none⟩)) := (hb2.cell (p := ⟨p.pb, 1, none⟩) hpl).trans hp1e; have hk4 : w2.cell? ⟨w.heap.size, 4, none⟩ = some (.string s) := (hb2.cell (p := ⟨w.heap.size, 4, none⟩) hol).trans ho4e; have hk1d : w2.drew.cell? ⟨p.pb, 1, none⟩ = some (.pointer (some ⟨p.rb, 0, none⟩)) := hk1; have hk4d : w2.drew.cell? ⟨w.heap.size, 4, none⟩ = some (.string s) := hk4; clear hq hb2)
 all_goals go_wp2
 all_goals go_region_with (go_at_call 120; refine (HQ.out _ (by repeat (first | exact Below.refl _ _ | refine Below.setCell ?_ (by first | exact Nat.le_refl _ | (simp; done) | (simp; omega)) _ | refine below_drewN ?_ _ | refine Below.drew ?_ | refine Below.alloc ?_ (by first | exact Nat.le_refl _ | (simp; done) | (simp; omega)) _))).mono ?_; rintro e w3 ⟨rfl, hst⟩; have HP : Hid (StepPost W wb V L us (.returned (.bool true)) w3) := hst; clear hst)
 all_goals go_wp2
 all_goals (go_ret; exact HP.out)
theorem lawAsks_cost (HN : Hid NodeC) (HW : Hid TWayC) (HR : Hid RNeedC) {W w : World} {wb : Nat} {V : Int} {L : List PS} {pv l1 l3 : Value} {us ws : List Value} (hS : LSt W w wb V L pv l1 l3 us ws) {i : Nat} {p : PS} (hi : L[i]? = some p) (g n m : Int) (s : ByteArray) (tv : Value) (hs : s.size <= maxLen) :
  Calls Tryz.prog 79 #[.pointer (some ⟨wb, 0, none⟩), .pointer (some ⟨p.pb, 0, none⟩), opV 6 g n m s tv] w (StepPost W wb V L us) := by
 have hb0 : Below w.heap.size w (w.alloc (opO 6 g n m s tv)) := (Below.refl _ _).alloc (Nat.le_refl _) _
 have hb : Below w.heap.size w (w.alloc (opO 6 g n m s tv)).drew := hb0.drew
 have hp := (hS.later hb).pairs p (List.mem_iff_getElem?.2 ⟨i, hi⟩)
 have HC : Hid (Calls Tryz.prog 20 #[.pointer (some ⟨p.gb, 0, none⟩), .string s] (w.alloc (opO 6 g n m s tv)).drew _) := asks_cost HN HW HR (hS.later hb) hi s hs
 have hp0 : (w.alloc (opO 6 g n m s tv)).cell? ⟨p.pb, 0, none⟩ = some (.pointer (some ⟨p.gb, 0, none⟩)) := row_cell hp.pair (j := 0) rfl
 have hp1 : (w.alloc (opO 6 g n m s tv)).cell? ⟨p.pb, 1, none⟩ = some (.pointer (some ⟨p.rb, 0, none⟩)) := row_cell hp.pair (j := 1) rfl
 have hp0' : (w.alloc (opO 6 g n m s tv)).drew.cell? ⟨p.pb, 0, none⟩ = some (.pointer (some ⟨p.gb, 0, none⟩)) := hp0
 have hpl : p.pb < (w.alloc (opO 6 g n m s tv)).drew.heap.size := cell_lt hp0
 have hp1e : (w.alloc (opO 6 g n m s tv)).drew.cell? ⟨p.pb, 1, none⟩ = some (.pointer (some ⟨p.rb, 0, none⟩)) := hp1
 have ho4 : (w.alloc (opO 6 g n m s tv)).cell? ⟨w.heap.size, 4, none⟩ = some (.string s) := row_cell (alloc_new w [.int .i64 6, .int .i64 g, .int .i64 n, .int .i64 m, .string s, tv] _) (j := 4) rfl
 have ho4e : (w.alloc (opO 6 g n m s tv)).drew.cell? ⟨w.heap.size, 4, none⟩ = some (.string s) := ho4
 have hol : w.heap.size < (w.alloc (opO 6 g n m s tv)).drew.heap.size := cell_lt ho4
 clear hS hb hi hp HN HW HR hb0
 unfold opO at hp0 hp1 hp0' hp1e hpl ho4 ho4e hol HC
 unfold opV
 go_enter Tryz.func79, Tryz.ntmps79
 go_wp2
 go_region_with (go_at_call 20; refine HC.out.mono ?_; rintro e w2 ⟨bo, er, rfl, hb2, hq⟩; have HQ : Hid (∀ w2', Below w2.heap.size w2 w2' -> Calls Tryz.prog 121 #[.pointer (some ⟨p.rb, 0, none⟩), .string s] w2' _) := hq; have hk1 : w2.cell? ⟨p.pb, 1, none⟩ = some (.pointer (some ⟨p.rb, 0, none⟩)) := (hb2.cell (p := ⟨p.pb, 1, none⟩) hpl).trans hp1e; have hk4 : w2.cell? ⟨w.heap.size, 4, none⟩ = some (.string s) := (hb2.cell (p := ⟨w.heap.size, 4, none⟩) hol).trans ho4e; have hk1d : w2.drew.cell? ⟨p.pb, 1, none⟩ = some (.pointer (some ⟨p.rb, 0, none⟩)) := hk1; have hk4d : w2.drew.cell? ⟨w.heap.size, 4, none⟩ = some (.string s) := hk4; clear hq hb2)
 all_goals go_wp2
 all_goals go_region_with (go_at_call 121; refine (HQ.out _ (by repeat (first | exact Below.refl _ _ | refine Below.setCell ?_ (by first | exact Nat.le_refl _ | (simp; done) | (simp; omega)) _ | refine below_drewN ?_ _ | refine Below.drew ?_ | refine Below.alloc ?_ (by first | exact Nat.le_refl _ | (simp; done) | (simp; omega)) _))).mono ?_; rintro e w3 ⟨rfl, hst⟩; have HP : Hid (StepPost W wb V L us (.returned (.bool true)) w3) := hst; clear hst)
 all_goals go_wp2
 all_goals (go_ret; exact HP.out)
theorem lawAsks_expand (HN : Hid NodeC) (HW : Hid TWayC) (HR : Hid RWhoC) {W w : World} {wb : Nat} {V : Int} {L : List PS} {pv l1 l3 : Value} {us ws : List Value} (hS : LSt W w wb V L pv l1 l3 us ws) {i : Nat} {p : PS} (hi : L[i]? = some p) (h1 : (us.length + 1) * 24 <= 140737488355328) (h3 : (3 * us.length + 3) * 24 <= 140737488355328) (hm : us.length <= 140737488355328) (g n m : Int) (s : ByteArray) (tv : Value) (hs : s.size <= maxLen) :
  Calls Tryz.prog 79 #[.pointer (some ⟨wb, 0, none⟩), .pointer (some ⟨p.pb, 0, none⟩), opV 5 g n m s tv] w (StepPost W wb V L us) := by
 have hb0 : Below w.heap.size w (w.alloc (opO 5 g n m s tv)) := (Below.refl _ _).alloc (Nat.le_refl _) _
 have hb : Below w.heap.size w (w.alloc (opO 5 g n m s tv)).drew := hb0.drew
 have hp := (hS.later hb).pairs p (List.mem_iff_getElem?.2 ⟨i, hi⟩)
 have HC : Hid (Calls Tryz.prog 40 #[.pointer (some ⟨p.gb, 0, none⟩), .string s] (w.alloc (opO 5 g n m s tv)).drew _) := asks_expand HN HW HR (hS.later hb) hi h1 h3 hm s hs
 have hp0 : (w.alloc (opO 5 g n m s tv)).cell? ⟨p.pb, 0, none⟩ = some (.pointer (some ⟨p.gb, 0, none⟩)) := row_cell hp.pair (j := 0) rfl
 have hp1 : (w.alloc (opO 5 g n m s tv)).cell? ⟨p.pb, 1, none⟩ = some (.pointer (some ⟨p.rb, 0, none⟩)) := row_cell hp.pair (j := 1) rfl
 have hp0' : (w.alloc (opO 5 g n m s tv)).drew.cell? ⟨p.pb, 0, none⟩ = some (.pointer (some ⟨p.gb, 0, none⟩)) := hp0
 have hpl : p.pb < (w.alloc (opO 5 g n m s tv)).drew.heap.size := cell_lt hp0
 have hp1e : (w.alloc (opO 5 g n m s tv)).drew.cell? ⟨p.pb, 1, none⟩ = some (.pointer (some ⟨p.rb, 0, none⟩)) := hp1
 have ho4 : (w.alloc (opO 5 g n m s tv)).cell? ⟨w.heap.size, 4, none⟩ = some (.string s) := row_cell (alloc_new w [.int .i64 5, .int .i64 g, .int .i64 n, .int .i64 m, .string s, tv] _) (j := 4) rfl
 have ho4e : (w.alloc (opO 5 g n m s tv)).drew.cell? ⟨w.heap.size, 4, none⟩ = some (.string s) := ho4
 have hol : w.heap.size < (w.alloc (opO 5 g n m s tv)).drew.heap.size := cell_lt ho4
 have hq0 := fun (w : World) (a : Option Addr) (n c n' c' : Nat) => Lib.run_eql_slice_nil (P := Tryz.prog) w 28 9 a n c n' c' Tryz.underlying28
 clear hS hb hi hp HN HW HR hb0 h1 h3 hm
 unfold opO at hp0 hp1 hp0' hp1e hpl ho4 ho4e hol HC
 unfold opV
 go_enter Tryz.func79, Tryz.ntmps79
 go_wp2
 go_region_with (go_at_call 40; refine HC.out.mono ?_; rintro e w2 ⟨o, n, c, er, rfl, hb2, her, hq⟩; have HQ : Hid (∀ w2', Below w2.heap.size w2 w2' -> Calls Tryz.prog 122 #[.pointer (some ⟨p.rb, 0, none⟩), .string s] w2' _) := hq; have hk1 : w2.cell? ⟨p.pb, 1, none⟩ = some (.pointer (some ⟨p.rb, 0, none⟩)) := (hb2.cell (p := ⟨p.pb, 1, none⟩) hpl).trans hp1e; have hk4 : w2.cell? ⟨w.heap.size, 4, none⟩ = some (.string s) := (hb2.cell (p := ⟨w.heap.size, 4, none⟩) hol).trans ho4e; have hk1d : w2.drew.cell? ⟨p.pb, 1, none⟩ = some (.pointer (some ⟨p.rb, 0, none⟩)) := hk1; have hk4d : w2.drew.cell? ⟨w.heap.size, 4, none⟩ = some (.string s) := hk4; have HER : Hid (er = 0 \/ er ≠ 0 /\ o = none /\ n = 0 /\ c = 0) := her; clear hq hb2 her)
 all_goals go_wp2
 all_goals go_region_with (go_at_call 122; refine (HQ.out _ (by repeat (first | exact Below.refl _ _ | refine Below.setCell ?_ (by first | exact Nat.le_refl _ | (simp; done) | (simp; omega)) _ | refine below_drewN ?_ _ | refine Below.drew ?_ | refine Below.alloc ?_ (by first | exact Nat.le_refl _ | (simp; done) | (simp; omega)) _))).mono ?_; rintro e w3 ⟨o', n', c', rfl, hsm⟩; have HSM : Hid (∀ w3', Below w3.heap.size w3 w3' -> Calls Tryz.prog 77 #[.slice o n c, .slice o' n' c'] w3' _) := hsm; clear hsm)
 all_goals
  rcases HER.out with rfl | ⟨hne, rfl, rfl, rfl⟩
  ·go_wp2_with (first | (go_at_call 77; refine (HSM.out _ (by repeat (first | exact Below.refl _ _ | refine Below.setCell ?_ (by first | exact Nat.le_refl _ | (simp; done) | (simp; omega)) _ | refine below_drewN ?_ _ | refine Below.drew ?_ | refine Below.alloc ?_ (by first | exact Nat.le_refl _ | (simp; done) | (simp; omega)) _))).mono ?_; rintro e w4 ⟨rfl, htk⟩; have HTK : Hid (∀ w4', Below w4.heap.size w4 w4' -> Calls Tryz.prog 78 #[.pointer (some ⟨wb, 0, none⟩), .slice o n c] w4' _) := htk; clear htk) | (go_at_call 78; refine (HTK.out _ (by repeat (first | exact Below.refl _ _ | refine Below.setCell ?_ (by first | exact Nat.le_refl _ | (simp; done) | (simp; omega)) _ | refine below_drewN ?_ _ | refine Below.drew ?_ | refine Below.alloc ?_ (by first | exact Nat.le_refl _ | (simp; done) | (simp; omega)) _))).mono ?_; rintro e w5 ⟨rfl, hst⟩; have HP : Hid (StepPost W wb V L us (.returned (.bool true)) w5) := hst; clear hst))
   go_ret
   exact HP.out
  ·have hne2 : (er != 0) = true := by simpa using hne
   go_wp2_with (first | (go_at_call 77; refine (HSM.out _ (by repeat (first | exact Below.refl _ _ | refine Below.setCell ?_ (by first | exact Nat.le_refl _ | (simp; done) | (simp; omega)) _ | refine below_drewN ?_ _ | refine Below.drew ?_ | refine Below.alloc ?_ (by first | exact Nat.le_refl _ | (simp; done) | (simp; omega)) _))).mono ?_; rintro e w4 ⟨rfl, htk⟩; have HTK : Hid (∀ w4', Below w4.heap.size w4 w4' -> Calls Tryz.prog 78 #[.pointer (some ⟨wb, 0, none⟩), .slice none 0 0] w4' _) := htk; clear htk) | (go_at_call 78; refine (HTK.out _ (by repeat (first | exact Below.refl _ _ | refine Below.setCell ?_ (by first | exact Nat.le_refl _ | (simp; done) | (simp; omega)) _ | refine below_drewN ?_ _ | refine Below.drew ?_ | refine Below.alloc ?_ (by first | exact Nat.le_refl _ | (simp; done) | (simp; omega)) _))).mono ?_; rintro e w5 ⟨rfl, hst⟩; have HP : Hid (StepPost W wb V L us (.returned (.bool true)) w5) := hst; clear hst))
   go_ret
   exact HP.out
structure OpOk2 (W : World) (o : OpR) : Prop where
 ok : OpOk W o
 hs : o.s.size <= maxLen
theorem txt_form {W : World} {tv : Value} {xs : List ByteArray} (ht : TxtAt W tv xs) : ∃ tx tn tc, tv = .slice tx tn tc := by
 rcases ht with ⟨rfl, -⟩ | ⟨a, rfl, -⟩ | ⟨b, off, cap, rfl, -⟩
 ·exact ⟨_, _, _, rfl⟩
 ·exact ⟨_, _, _, rfl⟩
 ·exact ⟨_, _, _, rfl⟩
theorem stepAsk_any (HN : Hid NodeC) (HW : Hid TWayC) (HR : Hid RWhoC) (HD : Hid RNeedC) {W w : World} {wb : Nat} {V : Int} {L : List PS} {pv l1 l3 : Value} {us ws : List Value} (hS : LSt W w wb V L pv l1 l3 us ws) (hV0 : 0 <= V) (hV : V <= 4611686018427387904) (hn0 : 0 < L.length) (hn : L.length <= 8796093022208) (h1 : (us.length + 1) * 24 <= 140737488355328) (h3 : (3 * us.length + 3) * 24 <= 140737488355328) (o : OpR) (ho : OpOk2 W o) :
  Calls Tryz.prog 36 #[.pointer (some ⟨wb, 0, none⟩), opV o.k o.g o.n o.m o.s o.tv, .int .i64 6] w (StepPost W wb V L us) := by
 obtain ⟨k, g, n, m, s, tv, xs⟩ := o
 obtain ⟨⟨hg, ht, hl, hsz⟩, hs⟩ := ho
 dsimp only at hg ht hl hsz hs ⊢
 have hm : us.length <= 140737488355328 := by omega
 by_cases e1 : k = 1
 ·subst e1; exact stepZ_open hS hV0 hn g n m s tv xs ht hl hsz 6 (by decide)
 by_cases e2 : k = 2
 ·subst e2; exact stepZ_write hS hV hn0 hn g n m hg s tv xs ht hl hsz 6 (by decide)
 by_cases e3 : k = 3
 ·subst e3; exact stepZ_tuples hS hn0 hn g n m hg s tv h1 h3 hm 6 (by decide)
 obtain ⟨tx, tn, tc, rfl⟩ := txt_form ht
 by_cases e4 : k = 4
 ·subst e4
  exact stepZ_asks hS hn0 hn 4 g n m hg s tx tn tc 6 (by decide) (by decide) (by decide) fun i p w1 hi hb => lawAsks_check HN HW HR (hS.later hb) hi g n m s _ hs
 by_cases e5 : k = 5
 ·subst e5
  exact stepZ_asks hS hn0 hn 5 g n m hg s tx tn tc 6 (by decide) (by decide) (by decide) fun i p w1 hi hb => lawAsks_expand HN HW HR (hS.later hb) hi h1 h3 hm g n m s _ hs
 by_cases e6 : k = 6
 ·subst e6
  exact stepZ_asks hS hn0 hn 6 g n m hg s tx tn tc 6 (by decide) (by decide) (by decide) fun i p w1 hi hb => lawAsks_cost HN HW HD (hS.later hb) hi g n m s _ hs
 exact stepZ_idle hS k g n m s _ 6 (by omega)
open Go.RowKit
theorem playsA_some (HN : Hid NodeC) (HWC : Hid TWayC) (HRW : Hid RWhoC) (HRN : Hid RNeedC) (W : World) (b off c n : Nat) (ops : List OpR) (hlen : ops.length = n) (hb : b < W.heap.size) (hops : ∀ i r, ops[i]? = some r -> OpAt W b (off + i * 6) r /\ OpOk2 W r) (hl : n * 72 <= 140737488351232) :
  Calls Tryz.prog 13 #[.slice (some ⟨b, off, none⟩) n c, .int .i64 6] W fun e w' => e = .returned (.bool true) /\ Below W.heap.size W w' := by
 have HOPS : Hid (∀ i r, ops[i]? = some r -> OpAt W b (off + i * 6) r /\ OpOk2 W r) := hops
 have HLEN : Hid (ops.length = n) := hlen
 clear hops hlen
 have hz : (W.alloc (.cells #[.slice none 0 0, .slice none 0 0, .slice none 0 0] 61)).heap.size = W.heap.size + 1 := by simp
 have hr0 := play_open (LSt.start W) (by decide) (by simp) 2 3 open_two
 rw [hz] at hr0
 have HR : Hid (Calls Tryz.prog 34 #[] _ _) := hr0
 clear hr0 hz
 go_enter Tryz.func13, Tryz.ntmps13
 go_wp2_with (first | (go_at_call 34; refine HR.out.mono ?_; rintro e w1 ⟨rfl, ho⟩; have HO : Hid (Calls Tryz.prog 33 #[.pointer (some ⟨W.heap.size, 0, none⟩), _, _, _] w1 _) := ho; clear ho) | (go_at_call 33; refine HO.out.mono ?_; rintro e w4 ⟨rfl, pv2, p2, hS4, -⟩; have HS4 : Hid (LSt W w4 W.heap.size 0 [p1, p2] pv2 _ _ _ _) := hS4; clear hS4; obtain ⟨pg, pc, rfl, hq1, hq2, hq3, hq4⟩ := play_write HS4.out HX1.out.1 HX1.out.2.1 HX1.out.2.2; have HW5 : Hid (Calls Tryz.prog 24 #[.pointer (some ⟨p1.gb, 0, none⟩), .slice (some ⟨w4.heap.size, 0, none⟩) 2 2] (w4.alloc (.cells (strV batch0).toArray 9)) _) := hq4 _ ((Below.refl _ _).alloc (Nat.le_refl _) _) (alloc_new w4 (strV batch0) _); clear hq4; have hq1a := cell_a hq1; have hq2a := cell_a hq2; have hq3a := cell_a hq3) | (go_at_call 33; refine HO.out.mono ?_; rintro e w2 ⟨rfl, pv1, p1, hS2, hx1⟩; have HX1 : Hid (p1.xs = rulesL /\ p1.now = [] /\ p1.g.ver = 0) := hx1; clear hx1; have HR : Hid (Calls Tryz.prog 34 #[] _ _) := play_open hS2 (by decide) (by simp) 1 1 open_one; clear hS2) | (go_at_call 24; refine HW5.out.mono ?_; rintro e w6 ⟨rfl, ha1, ha2, ha3, hrw⟩; have HRW : Hid (∀ w7, Below w6.heap.size w6 w7 -> Calls Tryz.prog 35 #[.pointer (some ⟨p1.rb, 0, none⟩), .slice (some ⟨w4.heap.size, 0, none⟩) 2 2] w7 _) := hrw; clear hrw) | (go_at_call 35; refine (HRW.out _ (by repeat (first | exact Below.refl _ _ | refine Below.setCell ?_ (by first | exact Nat.le_refl _ | (simp; done) | (simp; omega)) _ | refine below_drewN ?_ _ | refine Below.drew ?_ | refine Below.alloc ?_ (by first | exact Nat.le_refl _ | (simp; done) | (simp; omega)) _))).mono ?_; rintro e w8 ⟨rfl, L8, hS8, hL8⟩; have HS8 : Hid (LSt W w8 W.heap.size 1 L8 _ _ _ _ _ /\ L8.length = 2) := ⟨hS8, hL8⟩; clear hS8 hL8))
 go_loopw [12] (fun i wr => PInv W n i wr) (fun i _ => n - (intOf i).toNat)
 case atStart => exact ⟨0, L8, _, _, _, _, _, Nat.zero_le _, rfl, HS8.out.1, by rw [HS8.out.2]; exact Nat.le_refl _, by rw [HS8.out.2]; exact Nat.le_refl _, Nat.zero_le _⟩
 case round =>
  obtain ⟨k, L, pv, l1, l3, us, ws, hk, rfl, hI, hL2, hLk, hus⟩ := hrel
  clear HS8 HR HO HX1 HS4 HW5 HRW hq1 hq2 hq3 hq1a hq2a hq3a ha1 ha2 ha3
  by_cases hlt : k < n
  ·obtain ⟨r, hr⟩ : ∃ r, ops[k]? = some r := ⟨_, List.getElem?_eq_getElem (by rw [HLEN.out]; exact hlt)⟩
   obtain ⟨⟨a0, a1, a2, a3, a4, a5⟩, hok⟩ := HOPS.out k r hr
   have b0 := (hI.below.cell hb).trans a0
   have b1 := (hI.below.cell hb).trans a1
   have b2 := (hI.below.cell hb).trans a2
   have b3 := (hI.below.cell hb).trans a3
   have b4 := (hI.below.cell hb).trans a4
   have b5 := (hI.below.cell hb).trans a5
   have HST : Hid (Calls Tryz.prog 36 #[.pointer (some ⟨W.heap.size, 0, none⟩), opV r.k r.g r.n r.m r.s r.tv, .int .i64 6] wr _) := stepAsk_any HN HWC HRW HRN hI (by omega) (by omega) (by omega) (by omega) (by omega) (by omega) r hok
   clear a0 a1 a2 a3 a4 a5 hok hI
   unfold opV at HST
   go_wp2_with (first | (go_at_call 36; refine HST.out.mono ?_; rintro e w2 ⟨rfl, L2, pv2, q1, q3, us2, ws2, hS2, hm1, hm2, hm3⟩; have HLK : Hid (Calls Tryz.prog 37 #[.pointer (some ⟨W.heap.size, 0, none⟩)] w2 _) := looks_law hS2 (by omega); have HS2 : Hid (LSt W w2 W.heap.size (1 + k + 1) L2 pv2 q1 q3 us2 ws2) := hS2; clear hS2) | (go_at_call 37; refine HLK.out.mono ?_; rintro e w3 ⟨rfl, rfl⟩))
   go_roundw
   case rel => exact ⟨k + 1, L2, pv2, q1, q3, us2, ws2, by omega, by go_num, by have := HS2.out; rw [Int.add_assoc] at this; exact this, by omega, by omega, by omega⟩
   case measure => simp [intOf]; omega
  ·obtain rfl : k = n := by omega
   have HB : Hid (Below W.heap.size W wr) := hI.below
   clear hI
   go_wp2
   go_ret
   exact ⟨rfl, HB.out⟩
open Go.RowKit Go.Shelf
theorem up_to {lb : List ByteArray} {k : Nat} {x : ByteArray} (hx : lb[k]? = some x) (s : ByteArray) : (∃ j, j < k + 1 /\ lb[j]? = some s) ↔ (∃ j, j < k /\ lb[j]? = some s) \/ s = x := by
 constructor
 ·rintro ⟨j, hj, e⟩
  by_cases h : j = k
  ·subst h; rw [hx] at e; injection e with e; exact Or.inr e.symm
  ·exact Or.inl ⟨j, by omega, e⟩
 ·rintro (⟨j, hj, e⟩ | e)
  ·exact ⟨j, by omega, e⟩
  ·exact ⟨k, by omega, by rw [e]; exact hx⟩
theorem up_all {lb : List ByteArray} {s : ByteArray} : (∃ j, j < lb.length /\ lb[j]? = some s) ↔ s ∈ lb := by
 constructor
 ·rintro ⟨j, -, e⟩; exact List.mem_of_getElem? e
 ·intro h
  obtain ⟨j, hj⟩ := List.mem_iff_getElem?.1 h
  exact ⟨j, (List.getElem?_eq_some_iff.1 hj).1, hj⟩
theorem by_any2 (gb : Nat) {now : List ByteArray} {met : List Nod} {whoL : List (List ByteArray)} {tv nv wv : Value} (node way : ByteArray) (us : List ByteArray) (hus : us.length <= 50) (PA PB : ByteArray -> Prop) (w : World) (hs : way.size <= 1000) (hc : ByC now met whoL tv nv wv w) (hop : (apartS way).is = 124)
  (hIA : ∀ w', ByC now met whoL tv nv wv w' -> Calls Tryz.prog 200 #[.pointer (some ⟨gb, 0, none⟩), tv, nv, wv, .string node, .string (apartS way).A] w' (ByPost us PA w')) (hIB : ∀ w', ByC now met whoL tv nv wv w' -> Calls Tryz.prog 200 #[.pointer (some ⟨gb, 0, none⟩), tv, nv, wv, .string node, .string (apartS way).B] w' (ByPost us PB w')) :
  Calls Tryz.prog 200 #[.pointer (some ⟨gb, 0, none⟩), tv, nv, wv, .string node, .string way] w (ByPost us (fun s => PA s \/ PB s) w) := by
 have hml : way.size <= maxLen := by unfold maxLen; omega
 have ha := fun w => apart_any way.size way w hml (Nat.le_refl _)
 change (∀ w, Calls Tryz.prog 199 #[.string way] w fun e w' => e = .returned (apartS way).val /\ Below w.heap.size w w') at ha
 have HCH : Hid (∀ (w3 : World), Below w.heap.size w w3 -> Calls Tryz.prog 200 #[.pointer (some ⟨gb, 0, none⟩), tv, nv, wv, .string node, .string (apartS way).A] w3 _) := by_chain gb node _ _ us PA PB w hc hIA hIB
 have htv : ∃ x n c, tv = .slice x n c := by
  rcases hc.tv with ⟨rfl, -⟩ | ⟨b, off, cap, rfl, -⟩
  ·exact ⟨_, _, _, rfl⟩
  ·exact ⟨_, _, _, rfl⟩
 obtain ⟨tx, tn, tc, rfl⟩ := htv
 have hnv : ∃ x n c, nv = .slice x n c := by
  rcases hc.nv with ⟨rfl, -⟩ | ⟨b, off, cap, rfl, -⟩
  ·exact ⟨_, _, _, rfl⟩
  ·exact ⟨_, _, _, rfl⟩
 obtain ⟨nx, nn, nc, rfl⟩ := hnv
 obtain ⟨wg, wc, rfl, -⟩ := hc.wv
 clear hIA hIB hc
 unfold Pt.val at ha
 generalize (apartS way).A = A at *
 generalize (apartS way).B = B at *
 rw [hop] at ha
 have HUS : Hid (us.length <= 50) := hus
 have HA : Hid (∀ w, Calls Tryz.prog 199 #[.string way] w fun e w' => e = .returned (.agg #[.int .u8 124, .string A, .string B]) /\ Below w.heap.size w w') := ha
 clear ha hml hop hus
 generalize whoL.length = wn at *
 go_enter Tryz.func200, Tryz.ntmps200
 go_wp2_with (first | (go_at_call 199; refine (HA.out _).mono ?_; rintro e w2 ⟨rfl, hb2⟩; have HB2 : Hid (Below w.heap.size w w2) := hb2; clear hb2; have hp0 := row_cell (alloc_new w2 [.int .u8 124, .string A, .string B] 234) (j := 0) rfl; have hp2 := row_cell (alloc_new w2 [.int .u8 124, .string A, .string B] 234) (j := 2) rfl) | (go_at_call 200; refine (HCH.out _ (HB2.out.alloc HB2.out.size _)).mono ?_; rintro e w4 ⟨oa, ca, la, rfl, hb4, HNB⟩; have hp2' : w4.cell? ⟨w2.heap.size, 2, none⟩ = some (.string B) := (hb4.cell (cell_lt hp2)).trans hp2; clear HCH hb4) | (go_at_call 200; refine HNB.out.mono ?_; rintro e w5 ⟨ob, cb, lb, rfl, hb5, HR⟩; have hp0' : w5.cell? ⟨w2.heap.size, 0, none⟩ = some (.int .u8 124) := (hb5.cell (cell_lt hp0)).trans hp0; clear HNB hb5))
 have HLA : Hid (la.length <= 50 /\ lb.length <= 50) := ⟨Nat.le_trans HR.out.2.2.1.len HUS.out, Nat.le_trans HR.out.2.2.2.1.len HUS.out⟩
 have hlb := HLA.out.2
 go_loopw [14, 17] (fun ov i wr => ∃ (k : Nat) (o : Option Addr) (c : Nat) (out : List ByteArray), ov = .slice o out.length c /\ k <= lb.length /\ i = .int .i64 k /\ ByI us (fun s => PA s \/ ∃ j, j < k /\ lb[j]? = some s) w w5 ov out wr) (fun _ i _ => lb.length - (intOf i).toNat)
 case atStart =>
  exact ⟨0, oa, ca, la, rfl, Nat.zero_le _, rfl, HR.out.1, HR.out.2.2.1.congr fun s => ⟨Or.inl, fun h => h.elim id fun ⟨j, hj, _⟩ => absurd hj (Nat.not_lt_zero j)⟩, Below.refl _ _⟩
 case round =>
  obtain ⟨k, o, c, out, rfl, hk, rfl, hI⟩ := hrel
  have hpp : wr.cell? ⟨w2.heap.size, 0, none⟩ = some (.int .u8 124) := (hI.below.cell (cell_lt hp0')).trans hp0'
  by_cases hlt : k < lb.length
  ·obtain ⟨x, hx⟩ : ∃ x, lb[k]? = some x := ⟨_, List.getElem?_eq_getElem hlt⟩
   obtain ⟨g2, c2, he2, hc2⟩ := owns_cell HR.out.2.1 (by omega)
   injection he2 with he2 _ he3
   subst he2; subst he3
   have hcx : wr.cell? ⟨g2, k, none⟩ = some (.string x) := by
    have := hc2 k (.string x) (strV_get hx)
    exact (hI.below.cell (cell_lt this)).trans this
   have HIX : Hid (Calls Tryz.prog 170 #[.slice oa la.length ca, .string x] wr fun e w' => e = .returned (.int .i64 (idxI la x)) /\ w' = wr) := index_any _ la x wr (strs_below (owns_strs HR.out.1) hI.below) (by have := HLA.out.1; have := big_max; omega)
   have HWT : Hid (Calls Tryz.prog 74 #[.slice o out.length c, .string x, .bool true] wr _) := hI.with HUS.out HR.out.2.2.2.2.size (x := x) (HR.out.2.2.2.1.us x (List.mem_of_getElem? hx))
   have HX : Hid (∀ s, (PA s \/ ∃ j, j < k /\ lb[j]? = some s) \/ s = x ↔ PA s \/ ∃ j, j < k + 1 /\ lb[j]? = some s) := fun s => by rw [up_to hx, or_assoc]
   clear hI hx hc2
   generalize idxI la x = ix at *
   go_wp2_with (first | (go_at_call 170; refine HIX.out.mono ?_; rintro e w6 ⟨rfl, rfl⟩) | (go_at_call 74; refine HWT.out.mono ?_; rintro e w7 ⟨o7, c7, out7, rfl, hI7⟩; have HI7 : Hid (ByI us (fun s => (PA s \/ ∃ j, j < k /\ lb[j]? = some s) \/ s = x) w w5 (.slice o7 out7.length c7) out7 w7) := hI7; clear hI7))
   go_roundw
   case rel => exact ⟨k + 1, o7, c7, out7, rfl, by omega, by go_num, HI7.out.congr HX.out⟩
   case measure => simp [intOf]; omega
  ·obtain rfl : k = lb.length := by omega
   have HP : Hid (ByPost us (fun s => PA s \/ PB s) w (.returned (.slice o out.length c)) wr) := (hI.post HR.out.2.2.2.2).congr fun s => by rw [up_all, HR.out.2.2.2.1.iff]
   clear hI
   go_wp2
   go_ret
   exact HP.out
theorem by_all2 (gb : Nat) {now : List ByteArray} {met : List Nod} {whoL : List (List ByteArray)} {tv nv wv : Value} (node way : ByteArray) (us : List ByteArray) (hus : us.length <= 50) (PA PB : ByteArray -> Prop) (w : World) (hs : way.size <= 1000) (hc : ByC now met whoL tv nv wv w) (hop : (apartS way).is = 38)
  (hIA : ∀ w', ByC now met whoL tv nv wv w' -> Calls Tryz.prog 200 #[.pointer (some ⟨gb, 0, none⟩), tv, nv, wv, .string node, .string (apartS way).A] w' (ByPost us PA w')) (hIB : ∀ w', ByC now met whoL tv nv wv w' -> Calls Tryz.prog 200 #[.pointer (some ⟨gb, 0, none⟩), tv, nv, wv, .string node, .string (apartS way).B] w' (ByPost us PB w')) :
  Calls Tryz.prog 200 #[.pointer (some ⟨gb, 0, none⟩), tv, nv, wv, .string node, .string way] w (ByPost us (fun s => PA s /\ PB s) w) := by
 have hml : way.size <= maxLen := by unfold maxLen; omega
 have ha := fun w => apart_any way.size way w hml (Nat.le_refl _)
 change (∀ w, Calls Tryz.prog 199 #[.string way] w fun e w' => e = .returned (apartS way).val /\ Below w.heap.size w w') at ha
 have HCH : Hid (∀ (w3 : World), Below w.heap.size w w3 -> Calls Tryz.prog 200 #[.pointer (some ⟨gb, 0, none⟩), tv, nv, wv, .string node, .string (apartS way).A] w3 _) := by_chain gb node _ _ us PA PB w hc hIA hIB
 have htv : ∃ x n c, tv = .slice x n c := by
  rcases hc.tv with ⟨rfl, -⟩ | ⟨b, off, cap, rfl, -⟩
  ·exact ⟨_, _, _, rfl⟩
  ·exact ⟨_, _, _, rfl⟩
 obtain ⟨tx, tn, tc, rfl⟩ := htv
 have hnv : ∃ x n c, nv = .slice x n c := by
  rcases hc.nv with ⟨rfl, -⟩ | ⟨b, off, cap, rfl, -⟩
  ·exact ⟨_, _, _, rfl⟩
  ·exact ⟨_, _, _, rfl⟩
 obtain ⟨nx, nn, nc, rfl⟩ := hnv
 obtain ⟨wg, wc, rfl, -⟩ := hc.wv
 clear hIA hIB hc
 unfold Pt.val at ha
 generalize (apartS way).A = A at *
 generalize (apartS way).B = B at *
 rw [hop] at ha
 have HUS : Hid (us.length <= 50) := hus
 have HA : Hid (∀ w, Calls Tryz.prog 199 #[.string way] w fun e w' => e = .returned (.agg #[.int .u8 38, .string A, .string B]) /\ Below w.heap.size w w') := ha
 clear ha hml hop hus
 generalize whoL.length = wn at *
 go_enter Tryz.func200, Tryz.ntmps200
 go_wp2_with (first | (go_at_call 199; refine (HA.out _).mono ?_; rintro e w2 ⟨rfl, hb2⟩; have HB2 : Hid (Below w.heap.size w w2) := hb2; clear hb2; have hp0 := row_cell (alloc_new w2 [.int .u8 38, .string A, .string B] 234) (j := 0) rfl; have hp2 := row_cell (alloc_new w2 [.int .u8 38, .string A, .string B] 234) (j := 2) rfl) | (go_at_call 200; refine (HCH.out _ (HB2.out.alloc HB2.out.size _)).mono ?_; rintro e w4 ⟨oa, ca, la, rfl, hb4, HNB⟩; have hp2' : w4.cell? ⟨w2.heap.size, 2, none⟩ = some (.string B) := (hb4.cell (cell_lt hp2)).trans hp2; clear HCH hb4) | (go_at_call 200; refine HNB.out.mono ?_; rintro e w5 ⟨ob, cb, lb, rfl, hb5, HR⟩; have hp0' : w5.cell? ⟨w2.heap.size, 0, none⟩ = some (.int .u8 38) := (hb5.cell (cell_lt hp0)).trans hp0; clear HNB hb5))
 have HLA : Hid (la.length <= 50 /\ lb.length <= 50) := ⟨Nat.le_trans HR.out.2.2.1.len HUS.out, Nat.le_trans HR.out.2.2.2.1.len HUS.out⟩
 have hlb := HLA.out.2
 go_loopw [14, 17] (fun ov i wr => ∃ (k : Nat) (o : Option Addr) (c : Nat) (out : List ByteArray), ov = .slice o out.length c /\ k <= lb.length /\ i = .int .i64 k /\ ByI us (fun s => PA s /\ ∃ j, j < k /\ lb[j]? = some s) w w5 ov out wr) (fun _ i _ => lb.length - (intOf i).toNat)
 case atStart =>
  exact ⟨0, none, 0, [], rfl, Nat.zero_le _, rfl, World.ownsRow_nil _ _ _ _, (Gat.nil us).congr fun s => ⟨False.elim, fun ⟨_, j, hj, _⟩ => absurd hj (Nat.not_lt_zero j)⟩, Below.refl _ _⟩
 case round =>
  obtain ⟨k, o, c, out, rfl, hk, rfl, hI⟩ := hrel
  have hpp : wr.cell? ⟨w2.heap.size, 0, none⟩ = some (.int .u8 38) := (hI.below.cell (cell_lt hp0')).trans hp0'
  by_cases hlt : k < lb.length
  ·obtain ⟨x, hx⟩ : ∃ x, lb[k]? = some x := ⟨_, List.getElem?_eq_getElem hlt⟩
   obtain ⟨g2, c2, he2, hc2⟩ := owns_cell HR.out.2.1 (by omega)
   injection he2 with he2 _ he3
   subst he2; subst he3
   have hcx : wr.cell? ⟨g2, k, none⟩ = some (.string x) := by
    have := hc2 k (.string x) (strV_get hx)
    exact (hI.below.cell (cell_lt this)).trans this
   have HIX : Hid (Calls Tryz.prog 170 #[.slice oa la.length ca, .string x] wr fun e w' => e = .returned (.int .i64 (idxI la x)) /\ w' = wr) := index_any _ la x wr (strs_below (owns_strs HR.out.1) hI.below) (by have := HLA.out.1; have := big_max; omega)
   by_cases hin : 0 <= idxI la x
   ·have hpa : PA x := (HR.out.2.2.1.iff x).1 (idx_str.1 hin)
    have HWT : Hid (Calls Tryz.prog 74 #[.slice o out.length c, .string x, .bool true] wr _) := hI.with HUS.out HR.out.2.2.2.2.size (x := x) (HR.out.2.2.2.1.us x (List.mem_of_getElem? hx))
    have HX : Hid (∀ s, (PA s /\ ∃ j, j < k /\ lb[j]? = some s) \/ s = x ↔ PA s /\ ∃ j, j < k + 1 /\ lb[j]? = some s) := fun s => by
     rw [up_to hx]
     constructor
     ·rintro (⟨h1, h2⟩ | e)
      ·exact ⟨h1, Or.inl h2⟩
      ·exact ⟨by rw [e]; exact hpa, Or.inr e⟩
     ·rintro ⟨h1, h2 | e⟩
      ·exact Or.inl ⟨h1, h2⟩
      ·exact Or.inr e
    clear hI hx hc2 hpa
    generalize idxI la x = ix at *
    go_wp2_with (first | (go_at_call 170; refine HIX.out.mono ?_; rintro e w6 ⟨rfl, rfl⟩) | (go_at_call 74; refine HWT.out.mono ?_; rintro e w7 ⟨o7, c7, out7, rfl, hI7⟩; have HI7 : Hid (ByI us (fun s => (PA s /\ ∃ j, j < k /\ lb[j]? = some s) \/ s = x) w w5 (.slice o7 out7.length c7) out7 w7) := hI7; clear hI7))
    go_roundw
    case rel => exact ⟨k + 1, o7, c7, out7, rfl, by omega, by go_num, HI7.out.congr HX.out⟩
    case measure => simp [intOf]; omega
   ·have hpa : ¬ PA x := fun h => hin (idx_str.2 ((HR.out.2.2.1.iff x).2 h))
    have HI7 : Hid (ByI us (fun s => PA s /\ ∃ j, j < k + 1 /\ lb[j]? = some s) w w5 (.slice o out.length c) out wr) := hI.congr fun s => by
     rw [up_to hx]
     constructor
     ·rintro ⟨h1, h2⟩; exact ⟨h1, Or.inl h2⟩
     ·rintro ⟨h1, h2 | e⟩
      ·exact ⟨h1, h2⟩
      ·rw [e] at h1; exact absurd h1 hpa
    clear hI hx hc2 hpa
    generalize idxI la x = ix at *
    go_wp2_with (go_at_call 170; refine HIX.out.mono ?_; rintro e w6 ⟨rfl, rfl⟩)
    go_roundw
    case rel => exact ⟨k + 1, o, c, out, rfl, by omega, by go_num, HI7.out⟩
    case measure => simp [intOf]; omega
  ·obtain rfl : k = lb.length := by omega
   have HP : Hid (ByPost us (fun s => PA s /\ PB s) w (.returned (.slice o out.length c)) wr) := (hI.post HR.out.2.2.2.2).congr fun s => by rw [up_all, HR.out.2.2.2.1.iff]
   clear hI
   go_wp2
   go_ret
   exact HP.out
def UpW (met : List Nod) (whoL : List (List ByteArray)) (l : List ByteArray) (k : Nat) (s : ByteArray) : Prop := ∃ j y, j < k /\ l[j]? = some y /\ Wof met whoL y s
theorem upW_next {met : List Nod} {whoL : List (List ByteArray)} {l : List ByteArray} {k i : Nat} {y : ByteArray} {lw : List ByteArray} (hy : l[k]? = some y) (hi : idxI (met.map txT) y = i) (hw : whoL[i]? = some lw) (s : ByteArray) : (UpW met whoL l k s \/ ∃ j, j < lw.length /\ lw[j]? = some s) ↔ UpW met whoL l (k + 1) s := by
 have e : Wof met whoL y s ↔ s ∈ lw := by
  unfold Wof
  rw [hi, Int.toNat_natCast, List.getD_eq_getElem?_getD, hw]; rfl
 rw [up_all, ← e]
 constructor
 ·rintro (⟨j, z, h1, h2, h3⟩ | h)
  ·exact ⟨j, z, by omega, h2, h3⟩
  ·exact ⟨k, y, by omega, hy, h⟩
 ·rintro ⟨j, z, h1, h2, h3⟩
  by_cases h : j = k
  ·subst h; rw [hy] at h2; injection h2 with h2; rw [h2]; exact Or.inr h3
  ·exact Or.inl ⟨j, z, by omega, h2, h3⟩
theorem upW_all {met : List Nod} {whoL : List (List ByteArray)} {l : List ByteArray} {s : ByteArray} : UpW met whoL l l.length s ↔ ∃ y ∈ l, Wof met whoL y s := by
 constructor
 ·rintro ⟨j, y, -, h, hw⟩; exact ⟨y, List.mem_of_getElem? h, hw⟩
 ·rintro ⟨y, h, hw⟩
  obtain ⟨j, hj⟩ := List.mem_iff_getElem?.1 h
  exact ⟨j, y, (List.getElem?_eq_some_iff.1 hj).1, hj, hw⟩
theorem upW_zero {met : List Nod} {whoL : List (List ByteArray)} {l : List ByteArray} {s : ByteArray} : ¬ UpW met whoL l 0 s := fun ⟨j, _, h, _⟩ => Nat.not_lt_zero j h
theorem idx_place {l : List ByteArray} {y : ByteArray} (h : y ∈ l) : ∃ i : Nat, i < l.length /\ idxI l y = i := by
 have h0 := idx_str.2 h
 unfold idxI at h0 ⊢
 cases hf : l.findIdx? (fun x => x.toList == y.toList) with
 | none => rw [hf] at h0; exact absurd h0 (by decide)
 | some i => exact ⟨i, (List.findIdx?_eq_some_iff_getElem.1 hf).1, rfl⟩
def LeafP (met : List Nod) (whoL : List (List ByteArray)) (l sub : List ByteArray) (op : Int) (s : ByteArray) : Prop := (∃ y ∈ l, Wof met whoL y s) \/ (op = 116 /\ s ∈ sub /\ thingS s = true)
theorem by_leaf (gb : Nat) {now : List ByteArray} {met : List Nod} {whoL : List (List ByteArray)} (hK : ByK now met whoL) {tv nv wv : Value} (node way : ByteArray) (w : World) (hs : way.size <= 1000) (hc : ByC now met whoL tv nv wv w) (op : Int) (hop : (apartS way).is = op) (h124 : op ≠ 124) (h38 : op ≠ 38) (l : List ByteArray) (hll : l.length <= 1000000) (hin : ∀ y ∈ l, y ∈ met.map txT) (hsub : ∀ s ∈ subjL now node, thingS s = true -> s ∈ usT now) (hsl : (subjL now node).length <= 50) (hsz : ∀ x ∈ now, x.size <= maxLen)
  (hN : ∀ w', StrsAt w' tv now -> Calls Tryz.prog 201 #[.pointer (some ⟨gb, 0, none⟩), tv, .string node, .string way] w' (NPost w' l)) :
  Calls Tryz.prog 200 #[.pointer (some ⟨gb, 0, none⟩), tv, nv, wv, .string node, .string way] w (ByPost (usT now) (LeafP met whoL l (subjL now node) op) w) := by
 have hml : way.size <= maxLen := by unfold maxLen; omega
 have ha := fun w => apart_any way.size way w hml (Nat.le_refl _)
 change (∀ w, Calls Tryz.prog 199 #[.string way] w fun e w' => e = .returned (apartS way).val /\ Below w.heap.size w w') at ha
 have hus := usT_len hK.nl
 have HSJ : Hid (∀ w2, Below w.heap.size w w2 -> Calls Tryz.prog 220 #[tv, .string node] w2 fun e w3 => ∃ lx lc, e = .returned (.slice lx (subjL now node).length lc) /\ StrsAt w3 (.slice lx (subjL now node).length lc) (subjL now node) /\ Below w2.heap.size w2 w3) := by
  intro w2 hb2
  refine (subjects_any tv now node w2 (strs_below hc.tv hb2) (by have := hK.nl; omega) hsz).mono ?_
  rintro e w3 ⟨v, rfl, ho, hb3⟩
  obtain ⟨lx, lc, rfl⟩ := owns_form ho
  exact ⟨lx, lc, rfl, owns_strs ho, hb3⟩
 have HSM : Hid (∀ y ∈ subjL now node, y.size <= maxLen) := by
  intro y hy
  rcases subj_mem node now [] y hy with h | ⟨x, hx, rfl⟩
  ·cases h
  ·exact cutZ_size x 64 (hsz x hx)
 have HNC : Hid (∀ w2, Below w.heap.size w w2 -> Calls Tryz.prog 201 #[.pointer (some ⟨gb, 0, none⟩), tv, .string node, .string way] w2 fun e w3 => ∃ lo lc, e = .returned (.slice lo l.length lc) /\ Below w2.heap.size w2 w3 /\ Hid (w3.ownsRow w2.heap.size 9 1 (.slice lo l.length lc) l.length (strV l))) := by
  intro w2 hb2
  refine (hN w2 (strs_below hc.tv hb2)).mono ?_
  rintro e w3 ⟨v, rfl, ho, hb3⟩
  obtain ⟨lx, lc, rfl⟩ := owns_form ho
  exact ⟨lx, lc, rfl, hb3, ho⟩
 have HIX : Hid (∀ y ∈ l, ∀ w2, Below w.heap.size w w2 -> ∃ i : Nat, i < whoL.length /\ idxI (met.map txT) y = i /\ Calls Tryz.prog 170 #[nv, .string y] w2 fun e w' => e = .returned (.int .i64 (i : Nat)) /\ w' = w2) := by
  intro y hy w2 hb2
  obtain ⟨i, h1, h2⟩ := idx_place (hin y hy)
  rw [List.length_map, ← hK.len] at h1
  refine ⟨i, h1, h2, ?_⟩
  rw [← h2]
  exact index_any nv (met.map txT) y w2 (strs_below hc.nv hb2) (by rw [List.length_map]; have := hK.ml; unfold maxLen; omega)
 have htv : ∃ x n c, tv = .slice x n c := by
  rcases hc.tv with ⟨rfl, -⟩ | ⟨b, off, cap, rfl, -⟩
  ·exact ⟨_, _, _, rfl⟩
  ·exact ⟨_, _, _, rfl⟩
 obtain ⟨tx, tn, tc, rfl⟩ := htv
 have hnv : ∃ x n c, nv = .slice x n c := by
  rcases hc.nv with ⟨rfl, -⟩ | ⟨b, off, cap, rfl, -⟩
  ·exact ⟨_, _, _, rfl⟩
  ·exact ⟨_, _, _, rfl⟩
 obtain ⟨nx, nn, nc, rfl⟩ := hnv
 obtain ⟨wg, wc, rfl, hwc⟩ := hc.wv
 have HWC : Hid (∀ i l, whoL[i]? = some l -> ∃ x c', w.cell? ⟨wg, i, none⟩ = some (.slice x l.length c') /\ StrsAt w (.slice x l.length c') l) := hwc
 have HK : Hid (ByK now met whoL) := hK
 have hwl : whoL.length <= 300000 := by rw [hK.len]; exact hK.ml
 clear hc hN hwc hK hin
 unfold Pt.val at ha
 generalize (apartS way).A = A at *
 generalize (apartS way).B = B at *
 rw [hop] at ha
 have HA : Hid (∀ w, Calls Tryz.prog 199 #[.string way] w fun e w' => e = .returned (.agg #[.int .u8 op, .string A, .string B]) /\ Below w.heap.size w w') := ha
 have HUS : Hid ((usT now).length <= 50) := hus
 have HSUB : Hid (∀ s ∈ subjL now node, thingS s = true -> s ∈ usT now) := hsub
 have e124 : (op == 124) = false := by simpa using h124
 have e38 : (op == 38) = false := by simpa using h38
 clear ha hml hus hsub hsz hop
 generalize subjL now node = sub at *
 go_enter Tryz.func200, Tryz.ntmps200
 go_wp2_with (first | (go_at_call 199; refine (HA.out _).mono ?_; rintro e w2 ⟨rfl, hb2⟩; have HB2 : Hid (Below w.heap.size w w2) := hb2; clear hb2; have hp0 := row_cell (alloc_new w2 [.int .u8 op, .string A, .string B] 234) (j := 0) rfl) | (go_at_call 201; refine (HNC.out _ (HB2.out.alloc HB2.out.size _)).mono ?_; rintro e w3 ⟨lo, lc, rfl, hb3, HL⟩; have hp0' : w3.cell? ⟨w2.heap.size, 0, none⟩ = some (.int .u8 op) := (hb3.cell (cell_lt hp0)).trans hp0; have HB3 : Hid (Below w.heap.size w w3) := (HB2.out.alloc HB2.out.size _).trans (hb3.mono (HB2.out.alloc HB2.out.size _).size); clear hb3 HNC))
 go_loopw [14, 20] (fun ov i wr => ∃ (k : Nat) (o : Option Addr) (c : Nat) (out : List ByteArray), ov = .slice o out.length c /\ k <= l.length /\ i = .int .i64 k /\ ByI (usT now) (UpW met whoL l k) w w3 ov out wr) (fun _ i _ => l.length - (intOf i).toNat)
 case atStart => exact ⟨0, none, 0, [], rfl, Nat.zero_le _, rfl, World.ownsRow_nil _ _ _ _, (Gat.nil _).congr fun s => ⟨False.elim, fun h => upW_zero h⟩, Below.refl _ _⟩
 case round =>
  obtain ⟨k, o, c, out, rfl, hk, rfl, hI⟩ := hrel
  have hpp : wr.cell? ⟨w2.heap.size, 0, none⟩ = some (.int .u8 op) := (hI.below.cell (cell_lt hp0')).trans hp0'
  have HBr : Hid (Below w.heap.size w wr) := HB3.out.trans (hI.below.mono HB3.out.size)
  have HI : Hid (ByI (usT now) (UpW met whoL l k) w w3 (.slice o out.length c) out wr) := hI
  clear hI
  by_cases hlt : k < l.length
  ·obtain ⟨y, hy⟩ : ∃ y, l[k]? = some y := ⟨_, List.getElem?_eq_getElem hlt⟩
   obtain ⟨g2, c2, he2, hc2⟩ := owns_cell HL.out (by omega)
   injection he2 with he2 _ he3
   subst he2; subst he3
   have hcx : wr.cell? ⟨g2, k, none⟩ = some (.string y) := by
    have := hc2 k (.string y) (strV_get hy)
    exact (HI.out.below.cell (cell_lt this)).trans this
   obtain ⟨i, hil, hie, hix⟩ := HIX.out y (List.mem_of_getElem? hy) wr HBr.out
   have HIY : Hid (Calls Tryz.prog 170 #[.slice nx nn nc, .string y] wr fun e w' => e = .returned (.int .i64 (i : Nat)) /\ w' = wr) := hix
   obtain ⟨lw, hlw⟩ : ∃ lw, whoL[i]? = some lw := ⟨_, List.getElem?_eq_getElem hil⟩
   obtain ⟨x, c', hxc, hxs⟩ := HWC.out i lw hlw
   have hxc' := (HBr.out.cell (cell_lt hxc)).trans hxc
   have HXS : Hid (StrsAt w (.slice x lw.length c') lw) := hxs
   have HNX : Hid (∀ s, (UpW met whoL l k s \/ ∃ j, j < lw.length /\ lw[j]? = some s) ↔ UpW met whoL l (k + 1) s) := upW_next hy hie hlw
   have hlm := List.mem_of_getElem? hlw
   have hlwl := HK.out.short lw hlm
   have HLU : Hid (∀ s ∈ lw, s ∈ usT now) := HK.out.us lw hlm
   clear hxs hxc hc2 hix hie hlw hlm hy HIX
   go_wp2_with (go_at_call 170; refine HIY.out.mono ?_; rintro e w6 ⟨rfl, rfl⟩)
   go_loopw [14, 22] (fun ov i w4 => ∃ (kk : Nat) (o : Option Addr) (c : Nat) (out : List ByteArray), ov = .slice o out.length c /\ kk <= lw.length /\ i = .int .i64 kk /\ ByI (usT now) (fun s => UpW met whoL l k s \/ ∃ j, j < kk /\ lw[j]? = some s) w w3 ov out w4) (fun _ i _ => lw.length - (intOf i).toNat)
   case atStart => exact ⟨0, o, c, out, rfl, Nat.zero_le _, rfl, HI.out.congr fun s => ⟨Or.inl, fun h => h.elim id fun ⟨j, hj, _⟩ => absurd hj (Nat.not_lt_zero j)⟩⟩
   case round =>
    obtain ⟨kk, o4, c4, out4, rfl, hkk, rfl, hI4⟩ := hrel
    clear HI
    by_cases hlt2 : kk < lw.length
    ·obtain ⟨z, hz⟩ : ∃ z, lw[kk]? = some z := ⟨_, List.getElem?_eq_getElem hlt2⟩
     obtain ⟨gx, fx, hfx, hzc⟩ : ∃ gx fx, x = some ⟨gx, fx, none⟩ /\ wr.cell? ⟨gx, fx + kk, none⟩ = some (.string z) := by
      rcases HXS.out with ⟨-, e⟩ | ⟨b, off, cap, e, hcc⟩
      ·rw [e] at hlt2; simp at hlt2
      ·injection e with e _ _
       refine ⟨b, off, e, ?_⟩
       have h1 := hcc kk z hz
       exact ((HB3.out.trans (hI4.below.mono HB3.out.size)).cell (cell_lt h1)).trans h1
     subst hfx
     have HWT : Hid (Calls Tryz.prog 74 #[.slice o4 out4.length c4, .string z, .bool true] wr _) := hI4.with HUS.out HB3.out.size (x := z) (HLU.out z (List.mem_of_getElem? hz))
     have HX : Hid (∀ s, (UpW met whoL l k s \/ ∃ j, j < kk /\ lw[j]? = some s) \/ s = z ↔ UpW met whoL l k s \/ ∃ j, j < kk + 1 /\ lw[j]? = some s) := fun s => by rw [up_to hz, or_assoc]
     clear hI4 hz
     go_wp2_with (go_at_call 74; refine HWT.out.mono ?_; rintro e w7 ⟨o7, c7, out7, rfl, hI7⟩; have HI7 : Hid (ByI (usT now) (fun s => (UpW met whoL l k s \/ ∃ j, j < kk /\ lw[j]? = some s) \/ s = z) w w3 (.slice o7 out7.length c7) out7 w7) := hI7; clear hI7)
     go_roundw
     case rel => exact ⟨kk + 1, o7, c7, out7, rfl, by omega, by go_num, HI7.out.congr HX.out⟩
     case measure => simp [intOf]; omega
    ·obtain rfl : kk = lw.length := by omega
     have HI5 : Hid (ByI (usT now) (UpW met whoL l (k + 1)) w w3 (.slice o4 out4.length c4) out4 wr) := hI4.congr HNX.out
     clear hI4
     go_wp2
     go_roundw
     case rel => exact ⟨k + 1, o4, c4, out4, rfl, by omega, by go_num, HI5.out⟩
     case measure => simp [intOf]; omega
  ·obtain rfl : k = l.length := by omega
   by_cases h116 : op = 116
   ·subst h116
    have HSW : Hid (Calls Tryz.prog 220 #[.slice tx tn tc, .string node] wr fun e w3 => ∃ lx lc, e = .returned (.slice lx sub.length lc) /\ StrsAt w3 (.slice lx sub.length lc) sub /\ Below wr.heap.size wr w3) := HSJ.out wr HBr.out
    clear HSJ HIX
    go_wp2_with (go_at_call 220; refine HSW.out.mono ?_; rintro e w8 ⟨lx, lc8, rfl, hs8, hb8⟩; have HS8 : Hid (StrsAt w8 (.slice lx sub.length lc8) sub) := hs8; have HB8 : Hid (Below wr.heap.size wr w8) := hb8; clear hs8 hb8)
    go_loopw [14, 24] (fun ov i w4 => ∃ (kk : Nat) (o : Option Addr) (c : Nat) (out : List ByteArray), ov = .slice o out.length c /\ kk <= sub.length /\ i = .int .i64 kk /\ ByI (usT now) (fun s => UpW met whoL l l.length s \/ ((∃ j, j < kk /\ sub[j]? = some s) /\ thingS s = true)) w w8 ov out w4) (fun _ i _ => sub.length - (intOf i).toNat)
    case atStart => exact ⟨0, o, c, out, rfl, Nat.zero_le _, rfl, owns_below HI.out.own HB8.out, HI.out.g.congr fun s => ⟨Or.inl, fun h => h.elim id fun ⟨⟨j, hj, _⟩, _⟩ => absurd hj (Nat.not_lt_zero j)⟩, Below.refl _ _⟩
    case round =>
     obtain ⟨kk, o4, c4, out4, rfl, hkk, rfl, hI4⟩ := hrel
     by_cases hlt2 : kk < sub.length
     ·obtain ⟨z, hz⟩ : ∃ z, sub[kk]? = some z := ⟨_, List.getElem?_eq_getElem hlt2⟩
      obtain ⟨gx, fx, hfx, hzc⟩ : ∃ gx fx, lx = some ⟨gx, fx, none⟩ /\ wr.cell? ⟨gx, fx + kk, none⟩ = some (.string z) := by
       rcases HS8.out with ⟨-, e⟩ | ⟨b, off, cap, e, hcc⟩
       ·rw [e] at hlt2; simp at hlt2
       ·injection e with e _ _
        refine ⟨b, off, e, ?_⟩
        have h1 := hcc kk z hz
        exact (hI4.below.cell (cell_lt h1)).trans h1
      subst hfx
      have hzd : ∀ nq, (wr.drewN nq).cell? ⟨gx, fx + kk, none⟩ = some (.string z) := fun nq => hzc
      have hzm := List.mem_of_getElem? hz
      have HTH : Hid (Calls Tryz.prog 118 #[.string z] wr fun e w' => e = .returned (.bool (thingS z)) /\ ∃ n, w' = wr.drewN n) := thing_any z wr (HSM.out z hzm)
      cases ht : thingS z
      ·rw [ht] at HTH
       have HI5 : Hid (∀ nq, ByI (usT now) (fun s => UpW met whoL l l.length s \/ ((∃ j, j < kk + 1 /\ sub[j]? = some s) /\ thingS s = true)) w w8 (.slice o4 out4.length c4) out4 (wr.drewN nq)) := fun nq => (hI4.later (below_draw ⟨nq, rfl⟩)).congr fun s => by
        rw [up_to hz]
        constructor
        ·rintro (h | ⟨h1, h2⟩)
         ·exact Or.inl h
         ·exact Or.inr ⟨Or.inl h1, h2⟩
        ·rintro (h | ⟨h1 | e, h2⟩)
         ·exact Or.inl h
         ·exact Or.inr ⟨h1, h2⟩
         ·rw [e, ht] at h2; cases h2
       clear hI4 hz
       go_wp2_with (go_at_call 118; refine HTH.out.mono ?_; rintro e w9 ⟨rfl, nq, rfl⟩)
       go_roundw
       case rel => exact ⟨kk + 1, o4, c4, out4, rfl, by omega, by go_num, HI5.out _⟩
       case measure => simp [intOf]; omega
      ·rw [ht] at HTH
       have HWT : Hid (∀ nq, Calls Tryz.prog 74 #[.slice o4 out4.length c4, .string z, .bool true] (wr.drewN nq) _) := fun nq => (hI4.later (below_draw ⟨nq, rfl⟩)).with HUS.out (Nat.le_trans HBr.out.size HB8.out.size) (x := z) (HSUB.out z hzm ht)
       have HX : Hid (∀ s, (UpW met whoL l l.length s \/ ((∃ j, j < kk /\ sub[j]? = some s) /\ thingS s = true)) \/ s = z ↔ UpW met whoL l l.length s \/ ((∃ j, j < kk + 1 /\ sub[j]? = some s) /\ thingS s = true)) := fun s => by
        rw [up_to hz]
        constructor
        ·rintro ((h | ⟨h1, h2⟩) | e)
         ·exact Or.inl h
         ·exact Or.inr ⟨Or.inl h1, h2⟩
         ·exact Or.inr ⟨Or.inr e, by rw [e]; exact ht⟩
        ·rintro (h | ⟨h1 | e, h2⟩)
         ·exact Or.inl (Or.inl h)
         ·exact Or.inl (Or.inr ⟨h1, h2⟩)
         ·exact Or.inr e
       clear hI4 hz
       go_wp2_with (first | (go_at_call 118; refine HTH.out.mono ?_; rintro e w9 ⟨rfl, nq, rfl⟩) | (go_at_call 74; refine (HWT.out _).mono ?_; rintro e w7 ⟨o7, c7, out7, rfl, hI7⟩; have HI7 : Hid (ByI (usT now) (fun s => (UpW met whoL l l.length s \/ ((∃ j, j < kk /\ sub[j]? = some s) /\ thingS s = true)) \/ s = z) w w8 (.slice o7 out7.length c7) out7 w7) := hI7; clear hI7))
       go_roundw
       case rel => exact ⟨kk + 1, o7, c7, out7, rfl, by omega, by go_num, HI7.out.congr HX.out⟩
       case measure => simp [intOf]; omega
     ·obtain rfl : kk = sub.length := by omega
      have HP : Hid (ByPost (usT now) (LeafP met whoL l sub 116) w (.returned (.slice o4 out4.length c4)) wr) := (hI4.post (HBr.out.trans (HB8.out.mono HBr.out.size))).congr fun s => by
       unfold LeafP
       rw [upW_all, up_all]
       constructor
       ·rintro (h | h)
        ·exact Or.inl h
        ·exact Or.inr ⟨rfl, h⟩
       ·rintro (h | ⟨-, h⟩)
        ·exact Or.inl h
        ·exact Or.inr h
      clear hI4
      go_wp2
      go_ret
      exact HP.out
   ·have e116 : (op == 116) = false := by simpa using h116
    have HP : Hid (ByPost (usT now) (LeafP met whoL l sub op) w (.returned (.slice o out.length c)) wr) := (HI.out.post HB3.out).congr fun s => by
     unfold LeafP
     rw [upW_all]
     constructor
     ·exact Or.inl
     ·rintro (h | ⟨h, -⟩)
      ·exact h
      ·exact absurd h h116
    clear HI HIX HSJ
    go_wp2
    go_ret
    exact HP.out
theorem by_any (gb : Nat) {xs now : List ByteArray} (ok : DocOk xs now) {met : List Nod} {whoL : List (List ByteArray)} (hK : ByK now met whoL) {tv nv wv : Value} {x : Nod} {k n r : List UInt8} (hx : NmN x k n (some r)) : ∀ (f : Nat) (way : ByteArray) (w : World), way.size <= 1000 -> wayF f way = true -> (∀ y ∈ namedF now (txT x) f way, y ∈ met.map txT) -> ByC now met whoL tv nv wv w ->
  Calls Tryz.prog 200 #[.pointer (some ⟨gb, 0, none⟩), tv, nv, wv, .string (txT x), .string way] w (ByPost (usT now) (tellF now (txT x) (Wof met whoL) f way) w) := by
 have hns := nmN_size hx
 have hbig := big_max
 have hnow : ∀ s ∈ now, s.size <= 250 := fun s h => by
  obtain ⟨k, n, r, k2, n2, o, -, -, -, -, -, -, -, h9⟩ := tup_ok (ok.ht s h)
  exact h9
 have leaf : ∀ (f : Nat) (way : ByteArray) (w : World), way.size <= 1000 -> wayF f way = true -> (apartS way).is ≠ 124 -> (apartS way).is ≠ 38 -> (∀ y ∈ namedF now (txT x) f way, y ∈ met.map txT) -> ByC now met whoL tv nv wv w ->
   Calls Tryz.prog 200 #[.pointer (some ⟨gb, 0, none⟩), tv, nv, wv, .string (txT x), .string way] w (ByPost (usT now) (tellF now (txT x) (Wof met whoL) f way) w) := by
  intro f way w hs hw h1 h2 hin hc
  have hnl := named_len now (txT x) ok.nl f way hw
  have hsl := subj_len (txT x) now []
  have key := by_leaf gb hK (txT x) way w hs hc _ rfl h1 h2 (namedF now (txT x) f way) (by omega) hin (fun s hs ht => subj_us ok.ht hx hs ht) (by have := ok.nl; unfold subjL; simp at hsl; omega) (fun s hs => by have := hnow s hs; omega) (fun w' ht => named_any gb tv now (txT x) (by omega) ok.nl (fun s h => by have := hnow s h; omega) (fun s h => by have := hnow s h; omega) f way w' hs hw ht)
  refine key.mono fun e w' h => h.congr fun s => ?_
  unfold LeafP
  cases f <;> rw [tellF, if_neg h1, if_neg h2]
 intro f
 induction f with
 | zero =>
  intro way w hs hw hin hc
  rcases way_kind hw with h | ⟨-, g, e, -⟩
  ·exact leaf 0 way w hs hw (by omega) (by omega) hin hc
  ·omega
 | succ f ih =>
  intro way w hs hw hin hc
  rcases way_kind hw with h | ⟨hop, g, e, ha, hb⟩
  ·exact leaf _ way w hs hw (by omega) (by omega) hin hc
  ·injection e with e
   subst e
   have h7 := apart_sum way.size way (Nat.le_refl _) hop
   have he : namedF now (txT x) (f + 1) way = namedF now (txT x) f (apartS way).A ++ namedF now (txT x) f (apartS way).B := by
    rw [namedF, if_neg (by omega), if_neg (by omega), if_neg (by omega)]
   rw [he] at hin
   have hA := fun w' hc' => ih (apartS way).A w' (by omega) ha (fun y hy => hin y (List.mem_append_left _ hy)) hc'
   have hB := fun w' hc' => ih (apartS way).B w' (by omega) hb (fun y hy => hin y (List.mem_append_right _ hy)) hc'
   rcases hop with hop | hop
   ·refine (by_any2 gb (txT x) way (usT now) (usT_len ok.nl) _ _ w hs hc hop hA hB).mono fun e w' h => h.congr fun s => ?_
    rw [tellF, if_pos hop]
   ·refine (by_all2 gb (txT x) way (usT now) (usT_len ok.nl) _ _ w hs hc hop hA hB).mono fun e w' h => h.congr fun s => ?_
    rw [tellF, if_neg (by omega), if_pos hop]
theorem app_strF (w : World) (base : Nat) (v : Value) (n : Nat) (xs : List ByteArray) (x : ByteArray) (hown : w.ownsRow base 9 1 v n (strV xs)) (hb : base <= w.heap.size) (hl : n <= 1099511627776) :
  ∃ v' w', (Builtin.append_ #[28, 28] 28 #[v, .slice (some ⟨w.heap.size, 0, none⟩) 1 1]).run Tryz.prog (w.alloc (.cells #[.string x] 9)) = .ok v' w' /\
   w'.ownsRow base 9 1 v' (n + 1) (strV (xs ++ [x])) /\ w.grownBy w' v.ownBlock /\ (v'.ownBlock = v.ownBlock \/ v'.ownBlock = some (w.heap.size + 1)) := by
 obtain ⟨i, hi, hz, hs, hby⟩ := info_str
 obtain ⟨v', w', hr, h2, h3, h4, h5⟩ := run_append_own_at (P := Tryz.prog) (w.alloc (.cells #[.string x] 9)) base 28 28 9 i (.string { data := #[] }) 1 16 Tryz.underlying28 hi hz hs hby rfl (by decide) v n (strV xs) (hown.alloc _) ⟨w.heap.size, 0, none⟩ 1 1 [.string x] rfl
  (by intro j u hj
      match j, hj with
      | 0, hj => simp at hj; subst hj; simp [Addr.add])
  (by intro u hu; simp at hu; subst hu; rfl) (by unfold maxLen; omega) (by omega) (by simp; omega)
 have h2' : w'.ownsRow base 9 1 v' (n + 1) (strV (xs ++ [x])) := by
  rw [strV_append]; exact h2
 exact ⟨v', w', hr, h2', grown_alloc h3, by simpa using h5⟩
structure NdJ (w : World) (lo : Nat) (lv mv : Value) (met names : List Nod) (w4 : World) : Prop where
 own : w4.ownsRow w.heap.size 9 1 lv met.length (strV (met.map txT))
 more : w4.ownsRow lo 9 1 mv names.length (strV (names.map txT))
 sep : ∀ j, lv.ownBlock = some j -> mv.ownBlock ≠ some j
 below : Below w.heap.size w w4
theorem NdJ.add {w : World} {lo : Nat} {lv mv : Value} {met names : List Nod} {w4 : World} (h : NdJ w lo lv mv met names w4) (y : Nod) (hl : met.length <= 300000) :
  ∃ v' w', (Builtin.append_ #[28, 28] 28 #[lv, .slice (some ⟨w4.heap.size, 0, none⟩) 1 1]).run Tryz.prog (w4.alloc (.cells #[.string (txT y)] 9)) = .ok v' w' /\ NdJ w lo v' mv (met ++ [y]) names w' := by
 obtain ⟨v', w', hr, ho, hg, hv⟩ := app_strF w4 w.heap.size lv met.length (met.map txT) (txT y) h.own h.below.size (by omega)
 have hml := owns_lt h.more
 refine ⟨v', w', hr, ?_, ?_, ?_, ?_⟩
 ·have : (met ++ [y]).map txT = met.map txT ++ [txT y] := by simp
  rw [this, List.length_append]; exact ho
 ·refine owns_to h.more fun g hg2 => hg.block g (hml g hg2).1 ?_
  intro e; exact h.sep g e.symm hg2
 ·intro j hj
  rcases hv with e | e
  ·rw [e] at hj; exact h.sep j hj
  ·rw [e] at hj
   intro hm
   have := (hml j hm).1
   injection hj with hj
   omega
 ·exact h.below.grown hg h.below.size (fun j hj => (h.own.lt j hj).1)
structure NdI (xs now : List ByteArray) (x : Nod) (w : World) (lv : Value) (met : List Nod) (gone : Nat) (wr : World) : Prop where
 own : wr.ownsRow w.heap.size 9 1 lv met.length (strV (met.map txT))
 nd : met.Nodup
 gn : Gone (tsOf now) xs x met gone
 le : gone <= met.length
 nm : ∀ z ∈ met, ∃ k n r, NmN z k n (some r)
 below : Below w.heap.size w wr
theorem NdI.pos {xs now : List ByteArray} {x : Nod} {w : World} {lv : Value} {met : List Nod} {gone : Nat} {wr : World} (h : NdI xs now x w lv met gone wr) : 0 < met.length := (List.getElem?_eq_some_iff.1 h.gn.first).1
theorem NdI.len {xs now : List ByteArray} (ok : DocOk xs now) {x : Nod} {w : World} {lv : Value} {met : List Nod} {gone : Nat} {wr : World} (h : NdI xs now x w lv met gone wr) : met.length <= 300000 := needs_len ok h.nd h.gn.rch
theorem NdI.next {xs now : List ByteArray} (ok : DocOk xs now) {x : Nod} {w : World} {lv : Value} {met : List Nod} {gone : Nat} {wr : World} (h : NdI xs now x w lv met gone wr) {y : Nod} (hy : met[gone]? = some y) {w4 : World} {lv' : Value} (ho : w4.ownsRow w.heap.size 9 1 lv' (addL met (namesN (tsOf now) (ruleN xs) y)).length (strV ((addL met (namesN (tsOf now) (ruleN xs) y)).map txT))) (hb : Below w.heap.size w w4) :
  NdI xs now x w lv' (addL met (namesN (tsOf now) (ruleN xs) y)) (gone + 1) w4 := by
 have hyl := (List.getElem?_eq_some_iff.1 hy).1
 refine ⟨ho, addL_nodup _ h.nd, h.gn.next hy, ?_, fun z hz => ?_, hb⟩
 ·have := (addL_prefix (namesN (tsOf now) (ruleN xs) y) met).length_le; omega
 ·rcases (mem_addL _ _ z).1 hz with e | e
  ·exact h.nm z e
  ·obtain ⟨k, n, r, hny⟩ := h.nm y (List.mem_of_getElem? hy)
   exact names_nm ok.hv ok.ht hny e
theorem addL_rch {xs now : List ByteArray} {x y : Nod} {met : List Nod} (hr : ∀ z ∈ met, Rch (tsOf now) (ruleN xs) x z) (hy : y ∈ met) {l : List Nod} (hl : ∀ z ∈ l, z ∈ namesN (tsOf now) (ruleN xs) y) : ∀ z ∈ addL met l, Rch (tsOf now) (ruleN xs) x z := by
 intro z hz
 rcases (mem_addL _ _ z).1 hz with e | e
 ·exact hr z e
 ·exact Rch.on (hr y hy) (hl z e)
theorem refNeeds_any : RNeedC := by
 intro xs now ok b g tv w h x k n r hx
 have HRU : Hid (∀ (y : Nod) (w1 : World), Below w.heap.size w w1 -> (∃ k n r, NmN y k n (some r)) -> Calls Tryz.prog 72 #[.pointer (some ⟨b, 0, none⟩), .string (txT y)] w1 fun e w' => e = .returned (.string (ruleL (ruleOfs xs) (txT y))) /\ ∃ n, w' = w1.drewN n) := by
  rintro y w1 hb ⟨k, n, r, hy⟩
  exact ref_rule ok (h.below hb) hy
 have HNA : Hid (∀ (y : Nod) (w1 : World), Below w.heap.size w w1 -> (∃ k n r, NmN y k n (some r)) -> (ruleL (ruleOfs xs) (txT y)).size ≠ 0 -> Calls Tryz.prog 201 #[.pointer (some ⟨b, 0, none⟩), tv, .string (txT y), .string (ruleL (ruleOfs xs) (txT y))] w1 fun e w' => ∃ mo mc, e = .returned (.slice mo (namesN (tsOf now) (ruleN xs) y).length mc) /\ w'.ownsRow w1.heap.size 9 1 (.slice mo (namesN (tsOf now) (ruleN xs) y).length mc) (namesN (tsOf now) (ruleN xs) y).length (strV ((namesN (tsOf now) (ruleN xs) y).map txT)) /\ Below w1.heap.size w1 w') := by
  rintro y w1 hb ⟨k, n, r, hy⟩ h0
  refine (ref_named ok (h.below hb) hy h0).mono ?_
  rintro e w' ⟨v, rfl, ho, hb'⟩
  rw [List.length_map] at ho
  obtain ⟨mo, mc, rfl⟩ := owns_form ho
  exact ⟨mo, mc, rfl, ho, hb'⟩
 have HNL : Hid (∀ (y : Nod), (∃ k n r, NmN y k n (some r)) -> (namesN (tsOf now) (ruleN xs) y).length <= 1000000) := by
  intro y _
  have h200 : ∀ y ∈ xs, y.size <= 200 := fun y hy => (read_rule y (ok.hv y hy)).1
  have h1 : (namesN (tsOf now) (ruleN xs) y).length <= (namedW (tsOf now) y (ruleN xs y)).length := List.length_filter_le _ _
  have h2 := namedW_len (tsOf now) y (ruleN xs y)
  have h3 := (rule_cov h200 y).2
  have h4 : (tsOf now).length <= 50 := by unfold tsOf; rw [List.length_map]; exact ok.nl
  have h5 : lvW (ruleN xs y) * ((tsOf now).length + 1) <= 201 * 51 := Nat.mul_le_mul h3 (by omega)
  show _ <= _
  omega
 have HZ : Hid (∀ y : Nod, (∃ k n r, NmN y k n (some r)) -> (ruleL (ruleOfs xs) (txT y)).size = 0 -> namesN (tsOf now) (ruleN xs) y = []) := by
  rintro y ⟨k, n, r, hy⟩ h0
  rcases names_txt ok.hv ok.ht hy with ⟨-, e⟩ | ⟨e, -⟩
  ·exact e
  ·exact absurd h0 e
 have HFIN : Hid (∀ (o : Option Addr) (c : Nat) (met : List Nod) (wr : World), NdI xs now x w (.slice o met.length c) met met.length wr -> RNeedP xs now x w (.returned (.slice o met.length c)) wr) :=
  fun o c met wr hI => ⟨o, c, met, rfl, ⟨hI.nd, hI.gn, hI.nm⟩, hI.own, hI.len ok, hI.below⟩
 have HST : Hid (NdI xs now x w (.slice (some ⟨w.heap.size, 0, none⟩) 1 1) [x] 0 (w.alloc (.cells #[.string (txT x)] 9))) :=
  ⟨⟨by simp [strV], Or.inr ⟨w.heap.size, 1, #[.string (txT x)], rfl, Nat.le_refl _, alloc_new w [.string (txT x)] _, Nat.le_refl _, by unfold maxLen; omega, rfl, rfl⟩⟩, by simp, ⟨rfl, fun y hy => by simp at hy; rw [hy]; exact Rch.here, fun i y hi => absurd hi (Nat.not_lt_zero _)⟩, Nat.zero_le _, fun z hz => by simp at hz; rw [hz]; exact ⟨k, n, r, hx⟩, (Below.refl _ _).alloc (Nat.le_refl _) _⟩
 have HOK : Hid (DocOk xs now) := ok
 have htv : ∃ x n c, tv = .slice x n c := by
  rcases h.tv with ⟨rfl, -⟩ | ⟨b, off, cap, rfl, -⟩
  ·exact ⟨_, _, _, rfl⟩
  ·exact ⟨_, _, _, rfl⟩
 obtain ⟨tx, tn, tc, rfl⟩ := htv
 generalize RNeedP xs now x w = P at *
 clear h hx ok
 go_enter Tryz.func171, Tryz.ntmps171
 go_wp2
 go_loopw [7, 8] (fun lv i wr => ∃ (met : List Nod) (gone : Nat), i = .int .i64 gone /\ NdI xs now x w lv met gone wr) (fun _ i _ => 300001 - (intOf i).toNat)
 case atStart => exact ⟨[x], 0, rfl, HST.out⟩
 case round =>
  obtain ⟨met, gone, rfl, hI⟩ := hrel
  clear HST
  have hlen := hI.len HOK.out
  have hle := hI.le
  obtain ⟨gl, cl, rfl, hcl⟩ := owns_cell hI.own hI.pos
  have HI : Hid (NdI xs now x w (.slice (some ⟨gl, 0, none⟩) met.length cl) met gone wr) := hI
  clear hI
  by_cases hlt : gone < met.length
  ·obtain ⟨y, hy⟩ : ∃ y, met[gone]? = some y := ⟨_, List.getElem?_eq_getElem hlt⟩
   have hck := hcl gone (.string (txT y)) (strV_get (by rw [List.getElem?_map, hy]; rfl))
   have hckd : ∀ nq, (wr.drewN nq).cell? ⟨gl, gone, none⟩ = some (.string (txT y)) := fun nq => hck
   have hym := List.mem_of_getElem? hy
   have HNM : Hid (∃ k n r, NmN y k n (some r)) := HI.out.nm y hym
   have HRY : Hid (Calls Tryz.prog 72 #[.pointer (some ⟨b, 0, none⟩), .string (txT y)] wr fun e w' => e = .returned (.string (ruleL (ruleOfs xs) (txT y))) /\ ∃ n, w' = wr.drewN n) := HRU.out y wr HI.out.below HNM.out
   have HY : Hid (met[gone]? = some y) := hy
   clear hcl hy
   by_cases hz : (ruleL (ruleOfs xs) (txT y)).size = 0
   ·have hz2 : (ruleL (ruleOfs xs) (txT y)).toList.isEmpty = true := (empty_size _).2 hz
    have HNX : Hid (∀ nq, NdI xs now x w (.slice (some ⟨gl, 0, none⟩) met.length cl) met (gone + 1) (wr.drewN nq)) := by
     intro nq
     have e := HZ.out y HNM.out hz
     have hb := HI.out.below.trans ((below_draw ⟨nq, rfl⟩).mono HI.out.below.size)
     have := HI.out.next HOK.out HY.out (w4 := wr.drewN nq) (lv' := .slice (some ⟨gl, 0, none⟩) met.length cl)
     rw [e] at this
     exact this (owns_below HI.out.own (below_draw ⟨nq, rfl⟩)) hb
    generalize ruleL (ruleOfs xs) (txT y) = way at *
    generalize txT y = ty at *
    clear hz HRU HNA HZ HFIN
    go_wp2_with (go_at_call 72; refine HRY.out.mono ?_; rintro e w1 ⟨rfl, nq, rfl⟩)
    go_roundw
    case rel => exact ⟨met, gone + 1, by go_num, HNX.out _⟩
    case measure => simp [intOf]; omega
   ·have hz2 : (ruleL (ruleOfs xs) (txT y)).toList.isEmpty = false := empty_no0 hz
    have HNY : Hid (∀ nq, Calls Tryz.prog 201 #[.pointer (some ⟨b, 0, none⟩), .slice tx tn tc, .string (txT y), .string (ruleL (ruleOfs xs) (txT y))] (wr.drewN nq) fun e w' => ∃ mo mc, e = .returned (.slice mo (namesN (tsOf now) (ruleN xs) y).length mc) /\ NdJ w wr.heap.size (.slice (some ⟨gl, 0, none⟩) met.length cl) (.slice mo (namesN (tsOf now) (ruleN xs) y).length mc) met (namesN (tsOf now) (ruleN xs) y) w') := by
     intro nq
     have hb := HI.out.below.trans ((below_draw ⟨nq, rfl⟩).mono HI.out.below.size)
     refine (HNA.out y (wr.drewN nq) hb HNM.out hz).mono ?_
     rintro e w' ⟨mo, mc, rfl, ho, hb'⟩
     refine ⟨mo, mc, rfl, ?_, ho, ?_, hb.trans (hb'.mono hb.size)⟩
     ·exact owns_below (owns_below HI.out.own (below_draw ⟨nq, rfl⟩)) hb'
     ·intro j hj hm
      have h1 := (owns_lt HI.out.own j hj).1
      have h2 := (owns_lt ho j hm).2.1
      have : (wr.drewN nq).heap.size = wr.heap.size := rfl
      omega
    have HFN : Hid (∀ lv w4, w4.ownsRow w.heap.size 9 1 lv (addL met (namesN (tsOf now) (ruleN xs) y)).length (strV ((addL met (namesN (tsOf now) (ruleN xs) y)).map txT)) -> Below w.heap.size w w4 -> NdI xs now x w lv (addL met (namesN (tsOf now) (ruleN xs) y)) (gone + 1) w4) := fun lv w4 ho hb => HI.out.next HOK.out HY.out ho hb
    have hnl := HNL.out y HNM.out
    have HNN : Hid (∀ z ∈ namesN (tsOf now) (ruleN xs) y, ∃ k n r, NmN z k n (some r)) := fun z hz => by
     obtain ⟨k, n, r, hny⟩ := HNM.out
     exact names_nm HOK.out.hv HOK.out.ht hny hz
    have HML : Hid (∀ k, (addL met ((namesN (tsOf now) (ruleN xs) y).take k)).length <= 300000) := fun k => needs_len HOK.out (addL_nodup _ HI.out.nd) (addL_rch HI.out.gn.rch hym fun z hz => List.mem_of_mem_take hz)
    have HMN : Hid (∀ k, ∀ z ∈ addL met ((namesN (tsOf now) (ruleN xs) y).take k), ∃ k n r, NmN z k n (some r)) := fun k z hz => by
     rcases (mem_addL _ _ z).1 hz with e | e
     ·exact HI.out.nm z e
     ·exact HNN.out z (List.mem_of_mem_take e)
    have HPO : Hid (∀ l, 0 < (addL met l).length) := fun l => Nat.lt_of_lt_of_le HI.out.pos (addL_prefix l met).length_le
    generalize ruleL (ruleOfs xs) (txT y) = way at *
    generalize txT y = ty at *
    generalize namesN (tsOf now) (ruleN xs) y = names at *
    clear hz HRU HNA HZ HFIN HNM HNL HI
    go_wp2_with (first | (go_at_call 72; refine HRY.out.mono ?_; rintro e w1 ⟨rfl, nq, rfl⟩) | (go_at_call 201; refine (HNY.out _).mono ?_; rintro e w3 ⟨mo, mc, rfl, hJ⟩; have HJ : Hid (NdJ w wr.heap.size (.slice (some ⟨gl, 0, none⟩) met.length cl) (.slice mo names.length mc) met names w3) := hJ; clear hJ))
    go_loopw [7, 11] (fun lv i w4 => ∃ (kk : Nat), i = .int .i64 kk /\ kk <= names.length /\ NdJ w wr.heap.size lv (.slice mo names.length mc) (addL met (names.take kk)) names w4) (fun _ i _ => names.length - (intOf i).toNat)
    case atStart => exact ⟨0, rfl, Nat.zero_le _, HJ.out⟩
    case round =>
     obtain ⟨kk, rfl, hkk, hJ⟩ := hrel
     clear HJ
     by_cases hlt2 : kk < names.length
     ·obtain ⟨z, hz⟩ : ∃ z, names[kk]? = some z := ⟨_, List.getElem?_eq_getElem hlt2⟩
      obtain ⟨gm, cm, hme, hcm⟩ := owns_cell hJ.more (by omega)
      injection hme with hmo _ hmc
      subst hmo; subst hmc
      have hcz := hcm kk (.string (txT z)) (strV_get (by rw [List.getElem?_map, hz]; rfl))
      have HE : Hid (addL met (names.take (kk + 1)) = addN (addL met (names.take kk)) z) := addL_next hz
      have HIX : Hid (Calls Tryz.prog 170 #[_, .string (txT z)] _ fun e w' => e = .returned (.int .i64 (idxI ((addL met (names.take kk)).map txT) (txT z))) /\ w' = _) := index_any _ _ (txT z) _ (owns_strs (by rw [List.length_map]; exact hJ.own)) (by rw [List.length_map]; exact Nat.le_trans (HML.out kk) (by unfold maxLen; omega))
      have hml := HML.out kk
      obtain ⟨kz, nz, rz, hnz⟩ := HNN.out z (List.mem_of_getElem? hz)
      have him := idx_mem (HMN.out kk) hnz
      obtain ⟨gk, ck, rfl, -⟩ := owns_cell hJ.own (HPO.out _)
      by_cases hin : z ∈ addL met (names.take kk)
      ·have hneg : ¬ idxI ((addL met (names.take kk)).map txT) (txT z) < 0 := fun e => (him.1 e) hin
       have HQ : Hid (addL met (names.take (kk + 1)) = addL met (names.take kk)) := by
        show _ = _
        rw [HE.out]; unfold addN; rw [if_pos hin]
       have HJ : Hid _ := hJ
       clear hJ hcm him HE hnz hz hin
       generalize idxI ((addL met (names.take kk)).map txT) (txT z) = ix at *
       generalize txT z = tz at *
       go_wp2_with (go_at_call 170; refine HIX.out.mono ?_; rintro e w5 ⟨rfl, rfl⟩)
       go_roundw
       case rel => exact ⟨kk + 1, by go_num, by omega, by rw [HQ.out]; exact HJ.out⟩
       case measure => simp [intOf]; omega
      ·have hneg : idxI ((addL met (names.take kk)).map txT) (txT z) < 0 := him.2 hin
       have HQ : Hid (addL met (names.take (kk + 1)) = addL met (names.take kk) ++ [z]) := by
        show _ = _
        rw [HE.out]; unfold addN; rw [if_neg hin]
       obtain ⟨v2, w2, hr2, hJ2⟩ := hJ.add z hml
       have HJ : Hid _ := hJ2
       clear hJ hJ2 hcm him HE hnz hz hin
       generalize idxI ((addL met (names.take kk)).map txT) (txT z) = ix at *
       generalize txT z = tz at *
       go_wp2_with (first | (go_at_call 170; refine HIX.out.mono ?_; rintro e w5 ⟨rfl, rfl⟩) | (at_builtin; refine wpList_app_run rfl (.tmp 51) (.tmp 56) 28 rfl _ _ _ rfl rfl hr2 ?_))
       go_roundw
       case rel => exact ⟨kk + 1, by go_num, by omega, by rw [HQ.out]; exact HJ.out⟩
       case measure => simp [intOf]; omega
     ·obtain rfl : kk = names.length := by omega
      rw [List.take_length] at hJ
      have HN2 := HFN.out _ _ hJ.own hJ.below
      have HI2 : Hid (NdI xs now x w _ (addL met names) (gone + 1) _) := HN2
      obtain ⟨gk, ck, rfl, -⟩ := owns_cell hJ.own (HPO.out _)
      clear hJ HN2
      go_wp2
      go_roundw
      case rel => exact ⟨addL met names, gone + 1, by go_num, HI2.out⟩
      case measure => simp [intOf]; omega
  ·obtain rfl : gone = met.length := by omega
   have HP := HFIN.out _ _ _ _ HI.out
   clear HFIN HI hcl HRU HNA HZ HNL
   go_wp2
   exact HP
end Go.Proofs.YtalmoiogbdahcaaGreat
