import Derived.Test.YtalmoiogbdahcaaGreatXLawO
import Derived.Test.YtalmoiogbdahcaaGreatXLawQ
import Derived.Test.YtalmoiogbdahcaaGreatXLawU

/- A script: its beginning, its steps. -/
namespace Go.Proofs.YtalmoiogbdahcaaGreat
open Go.RowKit

structure OpR where
  k : Int
  g : Int
  n : Int
  m : Int
  s : ByteArray
  tv : Value
  xs : List ByteArray
structure OpOk (W : World) (o : OpR) : Prop where
  hg : -9223372036854775808 ≤ o.g ∧ o.g ≤ 9223372036854775807
  ht : TxtAt W o.tv o.xs
  hl : o.xs.length ≤ 8796093022208
  hsz : ∀ x ∈ o.xs, x.size ≤ 140737488355328
theorem step_any {W w : World} {wb : Nat} {V : Int} {L : List PS} {pv l1 l3 : Value} {us ws : List Value} (hS : LSt W w wb V L pv l1 l3 us ws) (hV0 : 0 ≤ V) (hV : V ≤ 4611686018427387904) (hn0 : 0 < L.length) (hn : L.length ≤ 8796093022208) (h1 : (us.length + 1) * 24 ≤ 140737488355328) (h3 : (3 * us.length + 3) * 24 ≤ 140737488355328) (o : OpR) (ho : OpOk W o) :
    Calls Tryz.prog 36 #[.pointer (some ⟨wb, 0, none⟩), opV o.k o.g o.n o.m o.s o.tv, .int .i64 3] w (StepPost W wb V L us) := by
  obtain ⟨k, g, n, m, s, tv, xs⟩ := o
  obtain ⟨hg, ht, hl, hsz⟩ := ho
  dsimp only at hg ht hl hsz ⊢
  by_cases e1 : k = 1
  · subst e1; exact step_open hS hV0 hn g n m s tv xs ht hl hsz
  · by_cases e2 : k = 2
    · subst e2; exact step_write hS hV hn0 hn g n m hg s tv xs ht hl hsz
    · by_cases e3 : k = 3
      · subst e3; exact step_tuples hS hn0 hn g n m hg s tv h1 h3 (by omega)
      · exact step_idle hS k g n m s tv (by omega)
theorem looks_law {W w : World} {wb : Nat} {V : Int} {L : List PS} {pv l1 l3 : Value} {us ws : List Value} (hS : LSt W w wb V L pv l1 l3 us ws) (hm : us.length ≤ 140737488355328) :
    Calls Tryz.prog 37 #[.pointer (some ⟨wb, 0, none⟩)] w fun e w' => e = .returned (.bool true) ∧ w' = w :=
  looks_any wb pv l1 l3 us ws w hS.lw (owns_vals hS.o1) (owns_vals hS.o3) hS.three hm (fun k u hu => (hS.full1 k u hu).full) (fun k j u h1 h2 h3 => (hS.full3 k j u h1 h2 h3).at)

theorem LSt.start (W : World) : LSt W (W.alloc (.cells #[.slice none 0 0, .slice none 0 0, .slice none 0 0] 61)) W.heap.size 0 [] (.slice none 0 0) (.slice none 0 0) (.slice none 0 0) [] [] where
  lw := alloc_new W [.slice none 0 0, .slice none 0 0, .slice none 0 0] _
  op := ⟨rfl, Or.inl ⟨rfl, rfl⟩⟩
  o1 := ⟨rfl, Or.inl ⟨rfl, rfl⟩⟩
  o3 := ⟨rfl, Or.inl ⟨rfl, rfl⟩⟩
  sep := fun k h => by cases h
  pairs := fun p hp => absurd hp List.not_mem_nil
  gnd := List.nodup_nil
  rnd := List.nodup_nil
  three := rfl
  full1 := fun k u hu => by simp at hu
  full3 := fun k j u hk => absurd hk (Nat.not_lt_zero k)
  below := (Below.refl _ _).alloc (Nat.le_refl _) _
  wbB := Nat.le_refl _
theorem play_open {W w : World} {wb : Nat} {V : Int} {L : List PS} {pv l1 l3 : Value} {us ws : List Value} (hS : LSt W w wb V L pv l1 l3 us ws) (hV : 0 ≤ V) (hn : L.length ≤ 8796093022208) (wk qu : Int) (hr : openRes rulesL wk qu = none) :
    Calls Tryz.prog 34 #[] w fun e w1 => e = .returned (.slice (some ⟨w.heap.size, 0, none⟩) 4 4) ∧ Calls Tryz.prog 33 #[.pointer (some ⟨wb, 0, none⟩), .slice (some ⟨w.heap.size, 0, none⟩) 4 4, .int .i64 wk, .int .i64 qu] w1 fun e w2 => e = .returned (.bool true) ∧ ∃ pv' p, LSt W w2 wb V (L ++ [p]) pv' l1 l3 us ws ∧ p.xs = rulesL ∧ p.now = [] ∧ p.g.ver = 0 := by
  refine (rules_any w).mono ?_
  rintro e w1 ⟨rfl, hrow, hb⟩
  refine ⟨rfl, ?_⟩
  refine (lawOpen_any (hS.later hb) hV hn _ rulesL wk qu (Or.inr (Or.inr ⟨w.heap.size, 0, 4, rfl, row_lt hrow, fun i x hx => by rw [Nat.zero_add]; exact row_cell hrow (strV_get hx)⟩)) (by decide) (by decide)).mono ?_
  rintro e w2 ⟨pv', L', rfl, h1, ⟨h2, -⟩ | ⟨-, p, rfl, h3⟩⟩
  · exact absurd hr h2
  · exact ⟨rfl, pv', p, h1, h3⟩

theorem play_write {W w : World} {wb : Nat} {p1 p2 : PS} {pv l1 l3 : Value} {us ws : List Value} (hS : LSt W w wb 0 [p1, p2] pv l1 l3 us ws) (hx : p1.xs = rulesL) (hnow : p1.now = []) (hver : p1.g.ver = 0) :
    ∃ pg pc, pv = .slice (some ⟨pg, 0, none⟩) 2 pc ∧ w.cell? ⟨wb, 0, none⟩ = some pv ∧ w.cell? ⟨pg, 0, none⟩ = some (.pointer (some ⟨p1.pb, 0, none⟩)) ∧ w.cell? ⟨p1.pb, 0, none⟩ = some (.pointer (some ⟨p1.gb, 0, none⟩)) ∧
      ∀ w5, Below w.heap.size w w5 → RowAt w5 w.heap.size batch0 → Calls Tryz.prog 24 #[.pointer (some ⟨p1.gb, 0, none⟩), .slice (some ⟨w.heap.size, 0, none⟩) 2 2] w5 fun e w6 => e = .returned (.tuple #[.int .i64 1, .int .i64 0, .int .i64 0]) ∧
        w6.cell? ⟨wb, 0, none⟩ = some pv ∧ w6.cell? ⟨pg, 0, none⟩ = some (.pointer (some ⟨p1.pb, 0, none⟩)) ∧ w6.cell? ⟨p1.pb, 1, none⟩ = some (.pointer (some ⟨p1.rb, 0, none⟩)) ∧
        ∀ w7, Below w6.heap.size w6 w7 → Calls Tryz.prog 35 #[.pointer (some ⟨p1.rb, 0, none⟩), .slice (some ⟨w.heap.size, 0, none⟩) 2 2] w7 fun e w8 => e = .returned (.tuple #[.int .i64 1, .int .i64 0, .int .i64 0]) ∧ ∃ L', LSt W w8 wb 1 L' pv l1 l3 us ws ∧ L'.length = 2 := by
  have hi : [p1, p2][0]? = some p1 := rfl
  have hp := hS.pairs p1 (by simp)
  obtain ⟨ys, hys, hyl⟩ : ∃ ys, wrRes (ruleOfs p1.xs) p1.now batch0 = .inr ys ∧ ys.length ≤ 50 := by
    rw [hx, hnow]
    have := first_batch
    split at this
    · rename_i ys h; exact ⟨ys, h, of_decide_eq_true this⟩
    · cases this
  have he : wrV p1.g.ver (.inr ys) = 1 ∧ wrA (.inr ys) = 0 ∧ wrE (.inr ys) = 0 := by
    refine ⟨?_, rfl, ?_⟩
    · show (if 50 < ys.length then 0 else p1.g.ver + 1) = (1 : Int)
      rw [if_neg (by omega), hver]; rfl
    · show (if 50 < ys.length then 6 else 0) = (0 : Int)
      rw [if_neg (by omega)]
  have hv := hS.op
  rcases owns_vals (us := [Value.pointer (some ⟨p1.pb, 0, none⟩), .pointer (some ⟨p2.pb, 0, none⟩)]) hv with ⟨-, e⟩ | ⟨pg, pc, hpv, hc⟩
  · cases e
  · have hpgt := (owns_lt hv pg (by rw [hpv]; rfl)).2
    refine ⟨pg, pc, hpv, row_cell hS.lw (j := 0) rfl, hc 0 _ rfl, row_cell hp.pair (j := 0) rfl, ?_⟩
    intro w5 hb5 hrow5
    have hgw : p1.gb < w.heap.size := row_lt hp.pg
    refine (wr_g hp (by decide) hb5 (xs := batch0) (Or.inr ⟨w.heap.size, 0, 2, rfl, by omega, fun i x hx => by rw [Nat.zero_add]; exact row_cell hrow5 (strV_get hx)⟩) (by decide) (by decide) hys he).mono ?_
    rintro e w6 ⟨rfl, hp6⟩
    have hs5 : w.heap.size < w5.heap.size := row_lt hrow5
    have c6 : Calm (turns p1) w w6 := (Calm.below hb5).trans (Calm.gate hp6.1 (cs := p1.g.cells) (by rw [hb5.block _ hgw]; exact hp.pg) (by decide) (Or.inl rfl))
    have hb6 : Below W.heap.size W w6 := (hS.below.trans (hb5.mono hS.below.size)).grown hp6.1 (Nat.le_trans hS.below.size hb5.size) (fun j hj => by injection hj with hj; rw [← hj]; exact hp.gB)
    have hlw6 : LwAt w6 wb pv l1 l3 := by unfold LwAt; rw [c6.own wb _ _ hS.lw (by decide)]; exact hS.lw
    have hop6 : w6.ownsRow (wb + 1) 66 1 pv 2 [Value.pointer (some ⟨p1.pb, 0, none⟩), .pointer (some ⟨p2.pb, 0, none⟩)] := owns_sl_sk hv fun k cur hk => c6.own k cur _ hk (by decide)
    have hc6 : w6.cell? ⟨pg, 0, none⟩ = some (.pointer (some ⟨p1.pb, 0, none⟩)) := by
      rcases owns_vals (us := [Value.pointer (some ⟨p1.pb, 0, none⟩), .pointer (some ⟨p2.pb, 0, none⟩)]) hop6 with ⟨-, e⟩ | ⟨pg', pc', hpv', hc'⟩
      · cases e
      · rw [hpv] at hpv'; injection hpv' with a; injection a with a; injection a with a; subst a; exact hc' 0 _ rfl
    refine ⟨rfl, row_cell hlw6 (j := 0) rfl, hc6, wr_c hp c6, ?_⟩
    intro w7 hb7
    have hrow7 : RowAt w7 w.heap.size batch0 := by
      have h6 : RowAt w6 w.heap.size batch0 := by unfold RowAt; rw [hp6.1.block _ hs5 (by intro e; injection e with e; omega)]; exact hrow5
      unfold RowAt; rw [hb7.block _ (row_lt h6)]; exact h6
    have c7 := c6.trans (Calm.below hb7)
    refine (wr_r hp (by decide) hb5 hys he hp6 (fun k hk _ => hb7.block k hk) c7 ⟨hp.gB, hp.rB⟩ (hb6.trans (hb7.mono hb6.size)) (v := .slice (some ⟨w.heap.size, 0, none⟩) 2 2) (Or.inl (Or.inr ⟨w.heap.size, 0, 2, rfl, fun i x hx => by rw [Nat.zero_add]; exact row_cell hrow7 (strV_get hx)⟩)) (by decide) (by decide)).mono ?_
    rintro e w8 ⟨rfl, -, hc8, hb8, p', e1, e2, e3, -, hp'⟩
    exact ⟨rfl, [p1, p2].set 0 p', hS.turned hi hc8 hb8 (by decide) e1 e2 e3 hp', rfl⟩

end Go.Proofs.YtalmoiogbdahcaaGreat

/- A script, walked. -/
namespace Go.Proofs.YtalmoiogbdahcaaGreat
open Go.RowKit

def OpAt (W : World) (b o : Nat) (r : OpR) : Prop :=
  W.cell? ⟨b, o, none⟩ = some (.int .i64 r.k) ∧ W.cell? ⟨b, o + 1, none⟩ = some (.int .i64 r.g) ∧ W.cell? ⟨b, o + 2, none⟩ = some (.int .i64 r.n) ∧ W.cell? ⟨b, o + 3, none⟩ = some (.int .i64 r.m) ∧ W.cell? ⟨b, o + 4, none⟩ = some (.string r.s) ∧ W.cell? ⟨b, o + 5, none⟩ = some r.tv
def ScrAt (W : World) (v : Value) (ops : List OpR) : Prop :=
  ((∃ x c, v = .slice x 0 c) ∧ ops = []) ∨ ∃ b off cap, v = .slice (some ⟨b, off, none⟩) ops.length cap ∧ b < W.heap.size ∧ ∀ i r, ops[i]? = some r → OpAt W b (off + i * 6) r ∧ OpOk W r
theorem cell_a {w : World} {b j : Nat} {u : Value} (h : w.cell? ⟨b, j, none⟩ = some u) (o : Obj) : (w.alloc o).cell? ⟨b, j, none⟩ = some u :=
  (World.cell?_of_block (a := ⟨b, j, none⟩) (Below.heap_alloc w o b (cell_lt h))).trans h

set_option maxRecDepth 100000 in
set_option maxHeartbeats 4000000 in
theorem plays_zero (W : World) (x : Option Addr) (c : Nat) :
    Calls Tryz.prog 13 #[.slice x 0 c, .int .i64 3] W fun e w' => e = .returned (.bool true) ∧ Below W.heap.size W w' := by
  have hz : (W.alloc (.cells #[.slice none 0 0, .slice none 0 0, .slice none 0 0] 61)).heap.size = W.heap.size + 1 := by simp
  have hr0 := play_open (LSt.start W) (by decide) (by simp) 2 3 open_two
  rw [hz] at hr0
  have HR : Hid (Calls Tryz.prog 34 #[] _ _) := hr0
  clear hr0 hz
  go_enter Tryz.func13, Tryz.ntmps13
  go_wp2_with (first | (go_at_call 34; refine HR.out.mono ?_; rintro e w1 ⟨rfl, ho⟩; have HO : Hid (Calls Tryz.prog 33 #[.pointer (some ⟨W.heap.size, 0, none⟩), _, _, _] w1 _) := ho; clear ho) | (go_at_call 33; refine HO.out.mono ?_; rintro e w4 ⟨rfl, pv2, p2, hS4, -⟩; have HS4 : Hid (LSt W w4 W.heap.size 0 [p1, p2] pv2 _ _ _ _) := hS4; clear hS4; obtain ⟨pg, pc, rfl, hq1, hq2, hq3, hq4⟩ := play_write HS4.out HX1.out.1 HX1.out.2.1 HX1.out.2.2; have HW5 : Hid (Calls Tryz.prog 24 #[.pointer (some ⟨p1.gb, 0, none⟩), .slice (some ⟨w4.heap.size, 0, none⟩) 2 2] (w4.alloc (.cells (strV batch0).toArray 9)) _) := hq4 _ ((Below.refl _ _).alloc (Nat.le_refl _) _) (alloc_new w4 (strV batch0) _); clear hq4; have hq1a := cell_a hq1; have hq2a := cell_a hq2; have hq3a := cell_a hq3) | (go_at_call 33; refine HO.out.mono ?_; rintro e w2 ⟨rfl, pv1, p1, hS2, hx1⟩; have HX1 : Hid (p1.xs = rulesL ∧ p1.now = [] ∧ p1.g.ver = 0) := hx1; clear hx1; have HR : Hid (Calls Tryz.prog 34 #[] _ _) := play_open hS2 (by decide) (by simp) 1 1 open_one; clear hS2) | (go_at_call 24; refine HW5.out.mono ?_; rintro e w6 ⟨rfl, ha1, ha2, ha3, hrw⟩; have HRW : Hid (∀ w7, Below w6.heap.size w6 w7 → Calls Tryz.prog 35 #[.pointer (some ⟨p1.rb, 0, none⟩), .slice (some ⟨w4.heap.size, 0, none⟩) 2 2] w7 _) := hrw; clear hrw) | (go_at_call 35; refine (HRW.out _ (by repeat (first | exact Below.refl _ _ | refine Below.setCell ?_ (by first | exact Nat.le_refl _ | simp) _ | refine below_drewN ?_ _ | refine Below.drew ?_ | refine Below.alloc ?_ (by first | exact Nat.le_refl _ | simp) _))).mono ?_; rintro e w8 ⟨rfl, L8, hS8, hL8⟩; have HS8 : Hid (LSt W w8 W.heap.size 1 L8 _ _ _ _ _ ∧ L8.length = 2) := ⟨hS8, hL8⟩; clear hS8 hL8))
  refine wp_loop_rounds 1 ?_
  rw [rounds_succ]
  go_wp2
  go_ret
  exact ⟨rfl, HS8.out.1.below⟩

def PInv (W : World) (n : Nat) (i : Value) (wr : World) : Prop :=
  ∃ (k : Nat) (L : List PS) (pv l1 l3 : Value) (us ws : List Value), k ≤ n ∧ i = .int .i64 k ∧ LSt W wr W.heap.size (1 + k) L pv l1 l3 us ws ∧ 2 ≤ L.length ∧ L.length ≤ 2 + k ∧ us.length ≤ k

set_option maxRecDepth 100000 in
set_option maxHeartbeats 4000000 in
theorem plays_some (W : World) (b off c n : Nat) (ops : List OpR) (hlen : ops.length = n) (hb : b < W.heap.size) (hops : ∀ i r, ops[i]? = some r → OpAt W b (off + i * 6) r ∧ OpOk W r) (hl : n * 72 ≤ 140737488351232) :
    Calls Tryz.prog 13 #[.slice (some ⟨b, off, none⟩) n c, .int .i64 3] W fun e w' => e = .returned (.bool true) ∧ Below W.heap.size W w' := by
  have HOPS : Hid (∀ i r, ops[i]? = some r → OpAt W b (off + i * 6) r ∧ OpOk W r) := hops
  have HLEN : Hid (ops.length = n) := hlen
  clear hops hlen
  have hz : (W.alloc (.cells #[.slice none 0 0, .slice none 0 0, .slice none 0 0] 61)).heap.size = W.heap.size + 1 := by simp
  have hr0 := play_open (LSt.start W) (by decide) (by simp) 2 3 open_two
  rw [hz] at hr0
  have HR : Hid (Calls Tryz.prog 34 #[] _ _) := hr0
  clear hr0 hz
  go_enter Tryz.func13, Tryz.ntmps13
  go_wp2_with (first | (go_at_call 34; refine HR.out.mono ?_; rintro e w1 ⟨rfl, ho⟩; have HO : Hid (Calls Tryz.prog 33 #[.pointer (some ⟨W.heap.size, 0, none⟩), _, _, _] w1 _) := ho; clear ho) | (go_at_call 33; refine HO.out.mono ?_; rintro e w4 ⟨rfl, pv2, p2, hS4, -⟩; have HS4 : Hid (LSt W w4 W.heap.size 0 [p1, p2] pv2 _ _ _ _) := hS4; clear hS4; obtain ⟨pg, pc, rfl, hq1, hq2, hq3, hq4⟩ := play_write HS4.out HX1.out.1 HX1.out.2.1 HX1.out.2.2; have HW5 : Hid (Calls Tryz.prog 24 #[.pointer (some ⟨p1.gb, 0, none⟩), .slice (some ⟨w4.heap.size, 0, none⟩) 2 2] (w4.alloc (.cells (strV batch0).toArray 9)) _) := hq4 _ ((Below.refl _ _).alloc (Nat.le_refl _) _) (alloc_new w4 (strV batch0) _); clear hq4; have hq1a := cell_a hq1; have hq2a := cell_a hq2; have hq3a := cell_a hq3) | (go_at_call 33; refine HO.out.mono ?_; rintro e w2 ⟨rfl, pv1, p1, hS2, hx1⟩; have HX1 : Hid (p1.xs = rulesL ∧ p1.now = [] ∧ p1.g.ver = 0) := hx1; clear hx1; have HR : Hid (Calls Tryz.prog 34 #[] _ _) := play_open hS2 (by decide) (by simp) 1 1 open_one; clear hS2) | (go_at_call 24; refine HW5.out.mono ?_; rintro e w6 ⟨rfl, ha1, ha2, ha3, hrw⟩; have HRW : Hid (∀ w7, Below w6.heap.size w6 w7 → Calls Tryz.prog 35 #[.pointer (some ⟨p1.rb, 0, none⟩), .slice (some ⟨w4.heap.size, 0, none⟩) 2 2] w7 _) := hrw; clear hrw) | (go_at_call 35; refine (HRW.out _ (by repeat (first | exact Below.refl _ _ | refine Below.setCell ?_ (by first | exact Nat.le_refl _ | simp) _ | refine below_drewN ?_ _ | refine Below.drew ?_ | refine Below.alloc ?_ (by first | exact Nat.le_refl _ | simp) _))).mono ?_; rintro e w8 ⟨rfl, L8, hS8, hL8⟩; have HS8 : Hid (LSt W w8 W.heap.size 1 L8 _ _ _ _ _ ∧ L8.length = 2) := ⟨hS8, hL8⟩; clear hS8 hL8))
  go_loopw [12] (fun i wr => PInv W n i wr) (fun i _ => n - (intOf i).toNat)
  case atStart => exact ⟨0, L8, _, _, _, _, _, Nat.zero_le _, rfl, HS8.out.1, by rw [HS8.out.2]; exact Nat.le_refl _, by rw [HS8.out.2]; exact Nat.le_refl _, Nat.zero_le _⟩
  case round =>
    obtain ⟨k, L, pv, l1, l3, us, ws, hk, rfl, hI, hL2, hLk, hus⟩ := hrel
    clear HS8 HR HO HX1 HS4 HW5 HRW hq1 hq2 hq3 hq1a hq2a hq3a ha1 ha2 ha3
    by_cases hlt : k < n
    · obtain ⟨r, hr⟩ : ∃ r, ops[k]? = some r := ⟨_, List.getElem?_eq_getElem (by rw [HLEN.out]; exact hlt)⟩
      obtain ⟨⟨a0, a1, a2, a3, a4, a5⟩, hok⟩ := HOPS.out k r hr
      have b0 := (hI.below.cell hb).trans a0
      have b1 := (hI.below.cell hb).trans a1
      have b2 := (hI.below.cell hb).trans a2
      have b3 := (hI.below.cell hb).trans a3
      have b4 := (hI.below.cell hb).trans a4
      have b5 := (hI.below.cell hb).trans a5
      have HST : Hid (Calls Tryz.prog 36 #[.pointer (some ⟨W.heap.size, 0, none⟩), opV r.k r.g r.n r.m r.s r.tv, .int .i64 3] wr _) := step_any hI (by omega) (by omega) (by omega) (by omega) (by omega) (by omega) r hok
      clear a0 a1 a2 a3 a4 a5 hok hI
      unfold opV at HST
      go_wp2_with (first | (go_at_call 36; refine HST.out.mono ?_; rintro e w2 ⟨rfl, L2, pv2, q1, q3, us2, ws2, hS2, hm1, hm2, hm3⟩; have HLK : Hid (Calls Tryz.prog 37 #[.pointer (some ⟨W.heap.size, 0, none⟩)] w2 _) := looks_law hS2 (by omega); have HS2 : Hid (LSt W w2 W.heap.size (1 + k + 1) L2 pv2 q1 q3 us2 ws2) := hS2; clear hS2) | (go_at_call 37; refine HLK.out.mono ?_; rintro e w3 ⟨rfl, rfl⟩))
      go_roundw
      case rel => exact ⟨k + 1, L2, pv2, q1, q3, us2, ws2, by omega, by go_num, by have := HS2.out; rw [Int.add_assoc] at this; exact this, by omega, by omega, by omega⟩
      case measure => simp [intOf]; omega
    · obtain rfl : k = n := by omega
      have HB : Hid (Below W.heap.size W wr) := hI.below
      clear hI
      go_wp2
      go_ret
      exact ⟨rfl, HB.out⟩

end Go.Proofs.YtalmoiogbdahcaaGreat
