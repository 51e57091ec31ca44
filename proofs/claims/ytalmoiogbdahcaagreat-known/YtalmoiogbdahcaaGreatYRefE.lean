import Derived.Test.YtalmoiogbdahcaaGreatYRefA
import Derived.Test.YtalmoiogbdahcaaGreatYLawB
import Derived.OwnWalk
namespace Go.Proofs.YtalmoiogbdahcaaGreat
set_option maxRecDepth 100000
set_option maxHeartbeats 8000000
open Go.RowKit
theorem info_str : ∃ i, Tryz.prog.info? 9 = some i /\ i.zero = some (.string { data := #[] }) /\ i.size = 1 /\ i.bytes = 16 := by
 obtain ⟨i, hi, hzz⟩ := Option.map_eq_some_iff.1 Tryz.infoStr
 simp only [Prod.mk.injEq] at hzz
 exact ⟨i, hi, hzz.1, hzz.2.1, hzz.2.2⟩
theorem grown_alloc {w w' : World} {o : Obj} {row : Option Nat} (h : (w.alloc o).grownBy w' row) : w.grownBy w' row :=
 ⟨h.os, h.tape, h.output, by have := h.size; simp at this; omega, fun k hk hne => by rw [h.block k (by simp; omega) hne]; exact Below.heap_alloc _ _ _ hk⟩
theorem wpList_app_run {P : Program} {w w' : World} {ops : Array Oper} {rest : List Oper} {o : Oper} {a : Act} {Q : Exit -> Act -> World -> Prop} (hgd : o.guard = none) (s x : Operand) (t : TypeId)
  (ho : o.op = .call { callee := .builtin .append, args := #[s, x], argTypes := #[t, t] }) (v u v' : Value) (hs : a.eval s = v) (hx : a.eval x = u)
  (hr : (Builtin.append_ #[t, t] o.type #[v, u]).run P w = .ok v' w') (h : wpList P ops Q rest (a.put o.dst v') w') : wpList P ops Q (o :: rest) a w :=
 wpList_plain hgd fun _ hK => by
  unfold Oper.wp execOp
  simp only [ho, resolve, invoke, builtin, Sem.run_bind, Sem.run_pure, Result.andThen_ok, List.map_toArray, List.map_cons, List.map_nil, hs, hx, hr]
  exact hK _ _ h
theorem app_str (w : World) (base : Nat) (v : Value) (n : Nat) (xs : List ByteArray) (hn : xs.length = n) (x : ByteArray) (hown : w.ownsRow base 9 1 v n (strV xs)) (hb : base <= w.heap.size) (hl : n <= 1099511627776) :
  ∃ v' w', (Builtin.append_ #[28, 28] 28 #[v, .slice (some ⟨w.heap.size, 0, none⟩) 1 1]).run Tryz.prog (w.alloc (.cells #[.string x] 9)) = .ok v' w' /\
   w'.ownsRow base 9 1 v' (n + 1) (strV (xs ++ [x])) /\ w.grownBy w' v.ownBlock /\ ∃ g c, v' = .slice (some ⟨g, 0, none⟩) (n + 1) c := by
 obtain ⟨i, hi, hz, hs, hby⟩ := info_str
 obtain ⟨v', w', hr, h2, h3, h4⟩ := run_append_own (P := Tryz.prog) (w.alloc (.cells #[.string x] 9)) base 28 28 9 i (.string { data := #[] }) 1 16 Tryz.underlying28 hi hz hs hby rfl (by decide) v n (strV xs) (hown.alloc _) ⟨w.heap.size, 0, none⟩ 1 1 [.string x] rfl
  (by intro j u hj
      match j, hj with
      | 0, hj => simp at hj; subst hj; simp [Addr.add])
  (by intro u hu; simp at hu; subst hu; rfl) (by unfold maxLen; omega) (by omega) (by simp; omega)
 have h2' : w'.ownsRow base 9 1 v' (n + 1) (strV (xs ++ [x])) := by
  rw [strV_append]; exact h2
 refine ⟨v', w', hr, h2', grown_alloc h3, ?_⟩
 rcases h2.2 with ⟨hv, h0⟩ | ⟨g, cap, cur, hv, -⟩
 ·omega
 ·exact ⟨g, cap, hv⟩
def gtB (x s : ByteArray) : Bool := !(Op.bytesLess x.toList s.toList || x.toList == s.toList)
def neB (x s : ByteArray) : Bool := !(x.toList == s.toList)
def withStep (s : ByteArray) (q : Bool × List ByteArray) (x : ByteArray) : Bool × List ByteArray :=
 ((q.1 && !gtB x s), (if q.1 && gtB x s then q.2 ++ [s] else q.2) ++ (if neB x s then [x] else []))
def withL (xs : List ByteArray) (s : ByteArray) (there : Bool) : List ByteArray :=
 (xs.foldl (withStep s) (there, [])).2 ++ (if (xs.foldl (withStep s) (there, [])).1 then [s] else [])
theorem withStep_len (s : ByteArray) (xs : List ByteArray) : ∀ q, (xs.foldl (withStep s) q).2.length <= q.2.length + 2 * xs.length := by
 induction xs with
 | nil => intro q; simp
 | cons x xs ih =>
  intro q
  rw [List.foldl_cons]
  refine Nat.le_trans (ih _) ?_
  have : (withStep s q x).2.length <= q.2.length + 2 := by
   unfold withStep; dsimp only
   rw [List.length_append]
   split <;> split <;> simp <;> omega
  simp only [List.length_cons]; omega
theorem with_any (v : Value) (xs : List ByteArray) (s : ByteArray) (there : Bool) (w : World) (h : StrsAt w v xs) (hl : xs.length <= 1000) :
  Calls Tryz.prog 74 #[v, .string s, .bool there] w fun e w' => ∃ v', e = .returned v' /\ w'.ownsRow w.heap.size 9 1 v' (withL xs s there).length (strV (withL xs s there)) /\ Below w.heap.size w w' := by
 rcases h with ⟨rfl, rfl⟩ | ⟨b, off, cap, rfl, hc⟩
 ·cases there
  ·go_enter Tryz.func74, Tryz.ntmps74
   go_wp2
   refine wp_loop_rounds 1 ?_
   rw [rounds_succ]
   go_wp2
   go_ret
   exact ⟨_, rfl, World.ownsRow_nil _ _ _ _, Below.refl _ _⟩
  ·go_enter Tryz.func74, Tryz.ntmps74
   go_wp2
   go_loopw [2, 7, 8] (fun t ov i wr => ∃ (o : Value), o = ov /\ i = .int .i64 0 /\ t = .bool true /\ wr.ownsRow w.heap.size 9 1 o 0 (strV []) /\ Below w.heap.size w wr) (fun _ _ _ _ => 0)
   case atStart => exact ⟨_, rfl, rfl, rfl, World.ownsRow_nil _ _ _ _, Below.refl _ _⟩
   case round =>
    obtain ⟨o, rfl, rfl, rfl, hown, hb⟩ := hrel
    obtain ⟨v1, w1, hr1, ho1, hg1, -⟩ := app_str wr w.heap.size o 0 [] rfl s hown hb.size (by omega)
    have HR : Hid (w1.ownsRow w.heap.size 9 1 v1 [s].length (strV [s]) /\ Below w.heap.size w w1) :=
     ⟨ho1, hb.grown hg1 hb.size (fun j hj => (hown.lt j hj).1)⟩
    clear hown hb ho1 hg1
    go_wp2_with (at_builtin; refine wpList_app_run rfl (.tmp 42) (.tmp 44) 28 rfl _ _ _ rfl rfl hr1 ?_)
    go_ret
    exact ⟨_, rfl, HR.out.1, HR.out.2⟩
 ·obtain ⟨n, hn⟩ : ∃ n, xs.length = n := ⟨_, rfl⟩
  have HX : Hid (xs.length = n) := hn
  rw [hn] at hl ⊢
  clear hn
  go_enter Tryz.func74, Tryz.ntmps74
  go_wp2
  go_loopw [2, 7, 8] (fun t ov i wr => ∃ (k : Nat) (o : Value), o = ov /\ k <= n /\ i = .int .i64 k /\ t = .bool ((xs.take k).foldl (withStep s) (there, [])).1 /\ wr.ownsRow w.heap.size 9 1 o ((xs.take k).foldl (withStep s) (there, [])).2.length (strV ((xs.take k).foldl (withStep s) (there, [])).2) /\ Below w.heap.size w wr) (fun _ _ i _ => n - (intOf i).toNat)
  case atStart => exact ⟨0, _, rfl, Nat.zero_le _, rfl, rfl, World.ownsRow_nil _ _ _ _, Below.refl _ _⟩
  case round =>
   obtain ⟨k, o, rfl, hk, rfl, rfl, hown, hb⟩ := hrel
   by_cases hlt : k < n
   ·have hkx : k < xs.length := by have := HX.out; omega
    obtain ⟨x, hx⟩ : ∃ x, xs[k] = x := ⟨_, rfl⟩
    have hck0 := hc k x (by rw [List.getElem?_eq_getElem hkx, hx])
    have hbl0 : b < w.heap.size := cell_lt hck0
    have hck : wr.cell? ⟨b, off + k, none⟩ = some (.string x) := by rw [← hck0]; exact hb.cell hbl0
    have HS : Hid ((xs.take (k + 1)).foldl (withStep s) (there, []) = withStep s ((xs.take k).foldl (withStep s) (there, [])) x) := by
     show _ = _
     rw [List.take_succ_eq_append_getElem hkx, List.foldl_append, hx]; rfl
    have HLen : Hid (((xs.take k).foldl (withStep s) (there, [])).2.length <= 2000) := by
     have := withStep_len s (xs.take k) (there, [])
     rw [List.length_take] at this
     show _ <= _
     simp at this; omega
    generalize (xs.take k).foldl (withStep s) (there, []) = q at *
    obtain ⟨t, ys⟩ := q
    dsimp only at hown HLen ⊢
    clear hc hx hck0 hkx
    cases heq : (x.toList == s.toList)
    ·cases hbl : Op.bytesLess x.toList s.toList
     ·cases t
      ·have HQ : Hid ((xs.take (k + 1)).foldl (withStep s) (there, []) = (false, ys ++ [x])) := by show _ = _; rw [HS.out]; simp [withStep, gtB, neB, hbl, heq]
       obtain ⟨v1, w1, hr1, ho1, hg1, -⟩ := app_str wr w.heap.size o ys.length ys rfl x hown hb.size (by have := HLen.out; omega)
       have HR : Hid (w1.ownsRow w.heap.size 9 1 v1 ((xs.take (k + 1)).foldl (withStep s) (there, [])).2.length (strV ((xs.take (k + 1)).foldl (withStep s) (there, [])).2) /\ Below w.heap.size w w1) := by
        rw [HQ.out]; refine ⟨by rw [List.length_append]; exact ho1, hb.grown hg1 hb.size (fun j hj => (hown.lt j hj).1)⟩
       clear hown hb HS ho1 hg1
       go_wp2_with (at_builtin; refine wpList_app_run rfl (.tmp 34) (.tmp 39) 28 rfl _ _ _ rfl rfl hr1 ?_)
       go_roundw
       case rel => exact ⟨k + 1, _, rfl, by omega, by go_num, by rw [HQ.out], HR.out.1, HR.out.2⟩
       case measure => simp [intOf]; omega
      ·have HQ : Hid ((xs.take (k + 1)).foldl (withStep s) (there, []) = (false, ys ++ [s] ++ [x])) := by show _ = _; rw [HS.out]; simp [withStep, gtB, neB, hbl, heq]
       obtain ⟨v1, w1, hr1, ho1, hg1, -⟩ := app_str wr w.heap.size o ys.length ys rfl s hown hb.size (by have := HLen.out; omega)
       have hb1 := hb.grown hg1 hb.size (fun j hj => (hown.lt j hj).1)
       obtain ⟨v2, w2, hr2, ho2, hg2, -⟩ := app_str w1 w.heap.size v1 (ys.length + 1) (ys ++ [s]) (by simp) x ho1 hb1.size (by have := HLen.out; omega)
       have hck1 : w1.cell? ⟨b, off + k, none⟩ = some (.string x) := by rw [← hck]; exact (hb1.cell hbl0).trans (hb.cell hbl0).symm
       have HR : Hid (w2.ownsRow w.heap.size 9 1 v2 ((xs.take (k + 1)).foldl (withStep s) (there, [])).2.length (strV ((xs.take (k + 1)).foldl (withStep s) (there, [])).2) /\ Below w.heap.size w w2) := by
        rw [HQ.out]; refine ⟨by rw [List.length_append, List.length_append]; exact ho2, hb1.grown hg2 hb1.size (fun j hj => (ho1.lt j hj).1)⟩
       clear hown hb HS ho1 hg1 hb1 ho2 hg2
       go_wp2_with (first | (at_builtin; refine wpList_app_run rfl (.tmp 24) (.tmp 26) 28 rfl _ _ _ rfl rfl hr1 ?_) | (at_builtin; refine wpList_app_run rfl (.tmp 34) (.tmp 39) 28 rfl _ _ _ rfl rfl hr2 ?_))
       go_roundw
       case rel => exact ⟨k + 1, _, rfl, by omega, by go_num, by rw [HQ.out], HR.out.1, HR.out.2⟩
       case measure => simp [intOf]; omega
     ·cases t
      ·have HQ : Hid ((xs.take (k + 1)).foldl (withStep s) (there, []) = (false, ys ++ [x])) := by show _ = _; rw [HS.out]; simp [withStep, gtB, neB, hbl, heq]
       obtain ⟨v1, w1, hr1, ho1, hg1, -⟩ := app_str wr w.heap.size o ys.length ys rfl x hown hb.size (by have := HLen.out; omega)
       have HR : Hid (w1.ownsRow w.heap.size 9 1 v1 ((xs.take (k + 1)).foldl (withStep s) (there, [])).2.length (strV ((xs.take (k + 1)).foldl (withStep s) (there, [])).2) /\ Below w.heap.size w w1) := by
        rw [HQ.out]; refine ⟨by rw [List.length_append]; exact ho1, hb.grown hg1 hb.size (fun j hj => (hown.lt j hj).1)⟩
       clear hown hb HS ho1 hg1
       go_wp2_with (at_builtin; refine wpList_app_run rfl (.tmp 34) (.tmp 39) 28 rfl _ _ _ rfl rfl hr1 ?_)
       go_roundw
       case rel => exact ⟨k + 1, _, rfl, by omega, by go_num, by rw [HQ.out], HR.out.1, HR.out.2⟩
       case measure => simp [intOf]; omega
      ·have HQ : Hid ((xs.take (k + 1)).foldl (withStep s) (there, []) = (true, ys ++ [x])) := by show _ = _; rw [HS.out]; simp [withStep, gtB, neB, hbl, heq]
       obtain ⟨v1, w1, hr1, ho1, hg1, -⟩ := app_str wr w.heap.size o ys.length ys rfl x hown hb.size (by have := HLen.out; omega)
       have HR : Hid (w1.ownsRow w.heap.size 9 1 v1 ((xs.take (k + 1)).foldl (withStep s) (there, [])).2.length (strV ((xs.take (k + 1)).foldl (withStep s) (there, [])).2) /\ Below w.heap.size w w1) := by
        rw [HQ.out]; refine ⟨by rw [List.length_append]; exact ho1, hb.grown hg1 hb.size (fun j hj => (hown.lt j hj).1)⟩
       clear hown hb HS ho1 hg1
       go_wp2_with (at_builtin; refine wpList_app_run rfl (.tmp 34) (.tmp 39) 28 rfl _ _ _ rfl rfl hr1 ?_)
       go_roundw
       case rel => exact ⟨k + 1, _, rfl, by omega, by go_num, by rw [HQ.out], HR.out.1, HR.out.2⟩
       case measure => simp [intOf]; omega
    ·cases hbl : Op.bytesLess x.toList s.toList
     all_goals
      cases t
      ·have HQ : Hid ((xs.take (k + 1)).foldl (withStep s) (there, []) = (false, ys)) := by show _ = _; rw [HS.out]; simp [withStep, gtB, neB, hbl, heq]
       have HR : Hid (wr.ownsRow w.heap.size 9 1 o ((xs.take (k + 1)).foldl (withStep s) (there, [])).2.length (strV ((xs.take (k + 1)).foldl (withStep s) (there, [])).2) /\ Below w.heap.size w wr) := by rw [HQ.out]; exact ⟨hown, hb⟩
       clear hown hb HS
       go_wp2
       go_roundw
       case rel => exact ⟨k + 1, _, rfl, by omega, by go_num, by rw [HQ.out], HR.out.1, HR.out.2⟩
       case measure => simp [intOf]; omega
      ·have HQ : Hid ((xs.take (k + 1)).foldl (withStep s) (there, []) = (true, ys)) := by show _ = _; rw [HS.out]; simp [withStep, gtB, neB, hbl, heq]
       have HR : Hid (wr.ownsRow w.heap.size 9 1 o ((xs.take (k + 1)).foldl (withStep s) (there, [])).2.length (strV ((xs.take (k + 1)).foldl (withStep s) (there, [])).2) /\ Below w.heap.size w wr) := by rw [HQ.out]; exact ⟨hown, hb⟩
       clear hown hb HS
       go_wp2
       go_roundw
       case rel => exact ⟨k + 1, _, rfl, by omega, by go_num, by rw [HQ.out], HR.out.1, HR.out.2⟩
       case measure => simp [intOf]; omega
   ·obtain rfl : k = n := by omega
    have hw : withL xs s there = ((xs.take k).foldl (withStep s) (there, [])).2 ++ (if ((xs.take k).foldl (withStep s) (there, [])).1 then [s] else []) := by
     rw [List.take_of_length_le (by have := HX.out; omega)]; rfl
    have HLen : Hid (((xs.take k).foldl (withStep s) (there, [])).2.length <= 2000) := by
     have := withStep_len s (xs.take k) (there, [])
     rw [List.length_take] at this
     show _ <= _
     simp at this; omega
    generalize (xs.take k).foldl (withStep s) (there, []) = q at *
    obtain ⟨t, ys⟩ := q
    dsimp only at hown HLen hw ⊢
    clear hc
    cases t
    ·have HW : Hid (withL xs s there = ys) := by show _ = _; rw [hw]; simp
     clear hw
     go_wp2
     go_ret
     exact ⟨_, rfl, by rw [HW.out]; exact hown, hb⟩
    ·have HW : Hid (withL xs s there = ys ++ [s]) := by show _ = _; rw [hw]; simp
     clear hw
     obtain ⟨v1, w1, hr1, ho1, hg1, -⟩ := app_str wr w.heap.size o ys.length ys rfl s hown hb.size (by have := HLen.out; omega)
     have HR : Hid (w1.ownsRow w.heap.size 9 1 v1 (ys ++ [s]).length (strV (ys ++ [s])) /\ Below w.heap.size w w1) :=
      ⟨by rw [List.length_append]; exact ho1, hb.grown hg1 hb.size (fun j hj => (hown.lt j hj).1)⟩
     clear hown hb ho1 hg1
     go_wp2_with (at_builtin; refine wpList_app_run rfl (.tmp 42) (.tmp 44) 28 rfl _ _ _ rfl rfl hr1 ?_)
     go_ret
     exact ⟨_, rfl, by rw [HW.out]; exact HR.out.1, HR.out.2⟩
theorem clone_run (w : World) (b off cap : Nat) (xs : List ByteArray) (n : Nat) (hn : xs.length = n) (hc : ∀ i x, xs[i]? = some x -> w.cell? ⟨b, off + i, none⟩ = some (.string x)) (hl : n <= 8796093022208) :
  ∃ g c w', (Builtin.append_ #[28, 28] 28 #[.slice (some ⟨w.heap.size, 0, none⟩) 0 0, .slice (some ⟨b, off, none⟩) n cap]).run Tryz.prog (w.alloc (.cells #[] 9)) = .ok (.slice (some ⟨g, 0, none⟩) n c) w' /\
   w'.ownsRow w.heap.size 9 1 (.slice (some ⟨g, 0, none⟩) n c) n (strV xs) /\ Below w.heap.size w w' := by
 obtain ⟨i, hi, hz, hs, hby⟩ := info_str
 obtain ⟨v', w', hr, h2, h3, h4⟩ := run_append_own (P := Tryz.prog) (w.alloc (.cells #[] 9)) w.heap.size 28 28 9 i (.string { data := #[] }) 1 16 Tryz.underlying28 hi hz hs hby rfl (by decide) (.slice (some ⟨w.heap.size, 0, none⟩) 0 0) 0 [] (World.ownsRow_made w #[] 0 (Nat.le_refl _) (Nat.zero_le _) rfl) ⟨b, off, none⟩ n cap (strV xs) (by rw [strV_length, hn, Nat.mul_one])
  (by intro j u hj
      simp only [strV, List.getElem?_map, Option.map_eq_some_iff] at hj
      obtain ⟨x, hx, rfl⟩ := hj
      have h1 := hc j x hx
      rw [show (⟨b, off, none⟩ : Addr).add j = ⟨b, off + j, none⟩ by unfold Addr.add; split; · rename_i h; rw [h]; rfl
                                                                     ·rfl]
      rw [← h1]
      exact ((Below.refl w.heap.size w).alloc (Nat.le_refl _) _).cell (p := ⟨b, off + j, none⟩) (cell_lt h1))
  (strV_one _) (by unfold maxLen; omega) (by omega) (by simp)
 rw [Nat.zero_add, List.nil_append] at h2
 rcases h2.2 with ⟨hv, h0⟩ | ⟨g, c, cur, hv, -⟩
 ·exfalso
  have := (h4.1 hv).1
  cases this
 ·subst hv
  refine ⟨g, c, w', hr, h2, ?_⟩
  exact ((Below.refl _ w).alloc (Nat.le_refl _) _).grown h3 (by simp) (by intro k hk; injection hk with hk; rw [← hk]; exact Nat.le_refl _)
theorem clone_any (b off cap : Nat) (xs : List ByteArray) (w : World) (hc : ∀ i x, xs[i]? = some x -> w.cell? ⟨b, off + i, none⟩ = some (.string x)) (hl : xs.length <= 8796093022208) :
  Calls Tryz.prog 49 #[.slice (some ⟨b, off, none⟩) xs.length cap] w fun e w' => ∃ g c, e = .returned (.slice (some ⟨g, 0, none⟩) xs.length c) /\ w'.ownsRow w.heap.size 9 1 (.slice (some ⟨g, 0, none⟩) xs.length c) xs.length (strV xs) /\ Below w.heap.size w w' := by
 obtain ⟨g, c, w', hr, ho, hb⟩ := clone_run w b off cap xs xs.length rfl hc hl
 have hq := fun (w : World) (a : Option Addr) (n c n' c' : Nat) => Lib.run_eql_slice_nil (P := Tryz.prog) w 28 9 a n c n' c' Tryz.underlying28
 have HO : Hid (w'.ownsRow w.heap.size 9 1 (.slice (some ⟨g, 0, none⟩) xs.length c) xs.length (strV xs) /\ Below w.heap.size w w') := ⟨ho, hb⟩
 clear ho hb hc
 go_enter Tryz.func49, Tryz.ntmps49
 go_wp2_with (at_builtin; refine wpList_app_run rfl (.tmp 5) (.tmp 6) 28 rfl _ _ _ rfl rfl hr ?_)
 go_ret
 exact ⟨g, c, rfl, HO.out.1, HO.out.2⟩
theorem clone_nil (w : World) : Calls Tryz.prog 49 #[.slice none 0 0] w fun e w' => e = .returned (.slice none 0 0) /\ w' = w := by
 have hq := fun (w : World) (a : Option Addr) (n c n' c' : Nat) => Lib.run_eql_slice_nil (P := Tryz.prog) w 28 9 a n c n' c' Tryz.underlying28
 go_enter Tryz.func49, Tryz.ntmps49
 go_wp2
 go_ret
 exact ⟨rfl, rfl⟩
theorem isNaN_any (s : ByteArray) (w : World) : Calls Tryz.prog 194 #[.string s] w fun e w' => e = .returned (.bool false) /\ w' = w := by
 go_enter Tryz.func194, Tryz.ntmps194
 go_wp2
 go_ret
 exact ⟨ret_bool (by simp), rfl⟩
theorem less_any (s t : ByteArray) (w : World) : Calls Tryz.prog 154 #[.string s, .string t] w fun e w' => e = .returned (.bool (Op.bytesLess s.toList t.toList)) /\ w' = w := by
 go_enter Tryz.func154, Tryz.ntmps154
 go_wp2_with (go_at_call 194; refine (isNaN_any _ _).mono ?_; rintro e w' ⟨rfl, rfl⟩)
 go_ret
 exact ⟨rfl, rfl⟩
def ltB (s t : ByteArray) : Bool := Op.bytesLess s.toList t.toList
def Place (xs : List ByteArray) (t : ByteArray) (i : Nat) : Prop := i <= xs.length /\ (∀ k x, k < i -> xs[k]? = some x -> ltB x t = true) /\ ∀ k x, i <= k -> xs[k]? = some x -> ltB x t = false
def Mono (xs : List ByteArray) (t : ByteArray) : Prop := ∀ (i j : Nat) (x y : ByteArray), i <= j -> xs[i]? = some x -> xs[j]? = some y -> ltB y t = true -> ltB x t = true
theorem sisNaN_any (s : ByteArray) (w : World) : Calls Tryz.prog 155 #[.string s] w fun e w' => e = .returned (.bool false) /\ w' = w := by
 go_enter Tryz.func155, Tryz.ntmps155
 go_wp2
 go_ret
 exact ⟨ret_bool (by simp), rfl⟩
theorem search_any (b off cap : Nat) (xs : List ByteArray) (t : ByteArray) (w : World) (hc : ∀ i x, xs[i]? = some x -> w.cell? ⟨b, off + i, none⟩ = some (.string x)) (hl : xs.length <= 1000) (hmo : Mono xs t) :
  Calls Tryz.prog 100 #[.slice (some ⟨b, off, none⟩) xs.length cap, .string t] w fun e w' => (∃ i : Nat, e = .returned (.tuple #[.int .i64 i, .bool (decide (xs[i]? = some t))]) /\ Place xs t i) /\ w' = w := by
 obtain ⟨n, hn⟩ : ∃ n, xs.length = n := ⟨_, rfl⟩
 have HX : Hid (xs.length = n) := hn
 rw [hn] at hl ⊢
 clear hn
 go_enter Tryz.func100, Tryz.ntmps100
 go_wp2
 go_loop [7, 8] (fun a z => ∃ i j : Nat, a = .int .i64 i /\ z = .int .i64 j /\ i <= j /\ j <= n /\ (∀ k x, k < i -> xs[k]? = some x -> ltB x t = true) /\ ∀ k x, j <= k -> xs[k]? = some x -> ltB x t = false) (fun a z => (intOf z - intOf a).toNat)
 case atStart => exact ⟨0, n, rfl, rfl, Nat.zero_le _, Nat.le_refl _, fun k x hk => absurd hk (Nat.not_lt_zero _), fun k x hk hx => by rw [List.getElem?_eq_none (by have := HX.out; omega)] at hx; cases hx⟩
 case round =>
  obtain ⟨i, j, rfl, rfl, hij, hjn, hlo, hhi⟩ := hrel
  have HL : Hid (∀ k x, k < i -> xs[k]? = some x -> ltB x t = true) := hlo
  have HH : Hid (∀ k x, j <= k -> xs[k]? = some x -> ltB x t = false) := hhi
  clear hlo hhi
  by_cases hlt : i < j
  ·have hmid : (i + j) / 2 < xs.length := by have := HX.out; omega
   obtain ⟨x, hx⟩ : ∃ x, xs[(i + j) / 2]? = some x := ⟨_, List.getElem?_eq_getElem hmid⟩
   have hck := hc _ x hx
   have hle := fun w => less_any x t w
   have HXX : Hid (xs[(i + j) / 2]? = some x) := hx
   clear hx hmid hc
   cases hb : ltB x t
   ·have hb' : Op.bytesLess x.toList t.toList = false := hb
    rw [hb'] at hle
    go_wp2_with (go_at_call 154; refine (hle _).mono ?_; rintro e w' ⟨rfl, rfl⟩)
    go_round
    case rel =>
     refine ⟨i, (i + j) / 2, rfl, by go_num, by omega, by omega, HL.out, ?_⟩
     intro k y hk hy
     cases e : ltB y t
     ·rfl
     ·have := hmo _ _ _ _ hk HXX.out hy e
      rw [hb] at this; cases this
    case measure => simp [intOf]; omega
   ·have hb' : Op.bytesLess x.toList t.toList = true := hb
    rw [hb'] at hle
    go_wp2_with (go_at_call 154; refine (hle _).mono ?_; rintro e w' ⟨rfl, rfl⟩)
    go_round
    case rel =>
     refine ⟨(i + j) / 2 + 1, j, by go_num, rfl, by omega, by omega, ?_, HH.out⟩
     intro k y hk hy
     exact hmo _ _ _ _ (by omega) hy HXX.out hb
    case measure => simp [intOf]; omega
  ·obtain rfl : i = j := by omega
   have HP : Hid (Place xs t i) := ⟨by have := HX.out; omega, HL.out, HH.out⟩
   by_cases hin : i < n
   ·obtain ⟨x, hx⟩ : ∃ x, xs[i]? = some x := ⟨_, List.getElem?_eq_getElem (by have := HX.out; omega)⟩
    have hck := hc _ x hx
    have HXX : Hid (xs[i]? = some x) := hx
    clear hx hc
    cases hq : (x.toList == t.toList)
    ·have HD : Hid (decide (xs[i]? = some t) = false) := by
      show _ = _
      rw [HXX.out, decide_eq_false_iff_not]
      intro e; injection e with e; subst e
      simp at hq
     go_wp2_with (go_at_call 155; refine (sisNaN_any _ _).mono ?_; rintro e w' ⟨rfl, rfl⟩)
     go_ret2
     exact ⟨⟨i, by rw [HD.out]; rfl, HP.out⟩, rfl⟩
    ·have HD : Hid (decide (xs[i]? = some t) = true) := by
      show _ = _
      rw [HXX.out, decide_eq_true_eq]
      rw [byte_eq, decide_eq_true_eq] at hq
      rw [hq]
     go_wp2
     go_ret2
     exact ⟨⟨i, by rw [HD.out]; rfl, HP.out⟩, rfl⟩
   ·have HD : Hid (decide (xs[i]? = some t) = false) := by
     show _ = _
     rw [List.getElem?_eq_none (by have := HX.out; omega)]; rfl
    clear hc
    go_wp2
    go_ret2
    exact ⟨⟨i, by rw [HD.out]; rfl, HP.out⟩, rfl⟩
def StrRow (w : World) (g : Nat) (cur : List Value) : Prop := w.heap[g]? = some (.cells cur.toArray 9 (0, 0))
def FullB (w : World) (v : Value) (m : ByteArray) : Prop :=
 v = .slice none 0 0 \/ ∃ g n cap cur, v = .slice (some ⟨g, 0, none⟩) n cap /\ StrRow w g cur /\ n <= cur.length /\ n <= maxLen /\ ∀ i, i < n -> cur[i]? = some (.string m)
def MPB (m : ByteArray) (w w' : World) : Prop :=
 ∀ g cur, StrRow w g cur -> ∃ cur', StrRow w' g cur' /\ cur'.length = cur.length /\ ∀ i : Nat, cur[i]? = some (.string m) -> cur'[i]? = some (.string m)
theorem MPB.trans {m : ByteArray} {a b c : World} (h : MPB m a b) (k : MPB m b c) : MPB m a c := by
 intro g cur hg
 obtain ⟨c1, h1, l1, p1⟩ := h g cur hg
 obtain ⟨c2, h2, l2, p2⟩ := k g c1 h1
 exact ⟨c2, h2, l2.trans l1, fun i hi => p2 i (p1 i hi)⟩
theorem MPB.of_same {m : ByteArray} {w w' : World} (h : ∀ g cur, StrRow w g cur -> w'.heap[g]? = w.heap[g]?) : MPB m w w' :=
 fun g cur hg => ⟨cur, by unfold StrRow; rw [h g cur hg]; exact hg, rfl, fun _ h => h⟩
theorem MPB.below {m : ByteArray} {w w' : World} (h : Below w.heap.size w w') : MPB m w w' := MPB.of_same fun g _ hg => h.block g (row_lt hg)
theorem FullB.step {m : ByteArray} {w w' : World} {v : Value} (h : FullB w v m) (k : MPB m w w') : FullB w' v m := by
 rcases h with h | ⟨g, n, cap, cur, hv, hg, hn, hm, hi⟩
 ·exact Or.inl h
 ·obtain ⟨c1, h1, l1, p1⟩ := k g cur hg
  exact Or.inr ⟨g, n, cap, c1, hv, h1, by omega, hm, fun i hl => p1 i (hi i hl)⟩
theorem FullB.at {m : ByteArray} {w : World} {v : Value} (h : FullB w v m) : FullAt w v m := by
 rcases h with h | ⟨g, n, cap, cur, hv, hg, hn, hm, hi⟩
 ·exact ⟨[], Or.inl ⟨h, rfl⟩, Nat.zero_le _, rfl⟩
 ·refine ⟨List.replicate n m, Or.inr ⟨g, 0, cap, by rw [List.length_replicate]; exact hv, ?_⟩, by rw [List.length_replicate]; exact hm, ?_⟩
  ·intro i x hx
   rw [List.getElem?_replicate] at hx
   split at hx
   ·rename_i hl
    injection hx with hx
    subst hx
    rw [Nat.zero_add]
    exact row_cell hg (hi i hl)
   ·cases hx
  ·simp [allAre]
theorem add_at (b k : Nat) : (⟨b, 0, none⟩ : Addr).add k = ⟨b, k, none⟩ := by
 unfold Addr.add
 split
 ·rename_i h; rw [h]
 ·simp
theorem app_full (w : World) (g n cap : Nat) (cur : List Value) (m : ByteArray) (j : Nat) (hj : 1 <= j) (hg : StrRow w g cur) (hc : cur.length = cap) (hn : n <= cap) (hcap : n + j <= 1099511627776) (hf : ∀ i, i < n -> cur[i]? = some (.string m)) :
  ∃ gx nx cx w', (Builtin.append_ #[28, 28] 28 #[.slice (some ⟨g, 0, none⟩) n cap, .slice (some ⟨w.heap.size, 0, none⟩) j j]).run Tryz.prog (w.alloc (.cells (strV (List.replicate j m)).toArray 9)) = .ok (.slice (some ⟨gx, 0, none⟩) nx cx) w' /\
   FullB w' (.slice (some ⟨gx, 0, none⟩) nx cx) m /\ MPB m w w' /\ w.grownBy w' (some g) := by
 obtain ⟨i, hi, hz, hs, hby⟩ := info_str
 have hlt : g < w.heap.size := row_lt hg
 have hga : StrRow (w.alloc (.cells (strV (List.replicate j m)).toArray 9)) g cur := by
  unfold StrRow; rw [Below.heap_alloc _ _ _ hlt]; exact hg
 have hnews : ∀ k u, (strV (List.replicate j m))[k]? = some u -> (w.alloc (.cells (strV (List.replicate j m)).toArray 9)).cell? ((⟨w.heap.size, 0, none⟩ : Addr).add k) = some u := by
  intro k u hu
  rw [add_at]
  refine row_cell (cs := strV (List.replicate j m)) (t := 9) (fz := (0, 0)) ?_ hu
  show (w.heap.push _)[w.heap.size]? = _
  simp
 by_cases hroom : n + j <= cap
 ·have hr := run_append_room (P := Tryz.prog) (w.alloc (.cells (strV (List.replicate j m)).toArray 9)) 28 28 9 i Tryz.underlying28 hi g n cap cur.toArray hga ⟨w.heap.size, 0, none⟩ j j (strV (List.replicate j m)) (by rw [hs, strV_length, List.length_replicate, Nat.mul_one]) hnews (strV_one _) hroom (by rw [hs, strV_length, List.length_replicate]; simp; omega)
  have hrow := setRow_heap _ g cur.toArray ((cur.take n ++ strV (List.replicate j m) ++ cur.drop (n + j))).toArray 9 (0, 0) hga
  have hcells : ∀ k, k < n + j -> (cur.take n ++ strV (List.replicate j m) ++ cur.drop (n + j))[k]? = some (.string m) := by
   intro k hk
   rw [List.append_assoc]
   by_cases h1 : k < n
   ·rw [List.getElem?_append_left (by rw [List.length_take]; omega), List.getElem?_take_of_lt h1]
    exact hf k h1
   ·rw [List.getElem?_append_right (by rw [List.length_take]; omega), List.length_take, Nat.min_eq_left (by omega), List.getElem?_append_left (by rw [strV_length, List.length_replicate]; omega)]
    simp only [strV, List.map_replicate, List.getElem?_replicate]
    rw [if_pos (by omega)]
  have hlen : (cur.take n ++ strV (List.replicate j m) ++ cur.drop (n + j)).length = cap := by
   rw [List.length_append, List.length_append, List.length_take, List.length_drop, strV_length, List.length_replicate]; omega
  rw [hs, Nat.mul_one, strV_length, List.length_replicate] at hr
  refine ⟨_, _, _, _, hr, ?_, ?_, ?_⟩
  ·exact Or.inr ⟨g, n + j, cap, _, rfl, hrow, by rw [hlen]; exact hroom, by unfold maxLen; omega, hcells⟩
  ·intro g' cur' hg'
   by_cases e : g' = g
   ·subst e
    have : cur' = cur := by
     have h1 : some (Obj.cells cur'.toArray 9 (0, 0)) = some (Obj.cells cur.toArray 9 (0, 0)) := hg'.symm.trans hg
     simpa using h1
    subst this
    refine ⟨_, hrow, by rw [hlen, hc], fun k hk => ?_⟩
    by_cases h1 : k < n + j
    ·exact hcells k h1
    ·rw [List.append_assoc, List.getElem?_append_right (by rw [List.length_take]; omega), List.length_take, Nat.min_eq_left (by omega), List.getElem?_append_right (by rw [strV_length, List.length_replicate]; omega), strV_length, List.length_replicate, List.getElem?_drop]
     rw [show n + j + (k - n - j) = k by omega]; exact hk
   ·exact ⟨cur', by unfold StrRow; rw [setRow_other _ _ _ _ e, Below.heap_alloc _ _ _ (row_lt hg')]; exact hg', rfl, fun _ h => h⟩
  ·refine ⟨rfl, rfl, rfl, ?_, fun k hk hne => ?_⟩
   ·show w.heap.size <= ((w.alloc _).setRow g _).heap.size
    simp [World.setRow]
   ·show ((w.alloc _).setRow g _).heap[k]? = _
    rw [setRow_other _ _ _ _ (fun e => hne (by rw [e])), Below.heap_alloc _ _ _ hk]
 ·have holds : ∀ k u, (cur.take n)[k]? = some u -> (w.alloc (.cells (strV (List.replicate j m)).toArray 9)).cell? ((⟨g, 0, none⟩ : Addr).add k) = some u := by
   intro k u hu
   rw [add_at]
   have hk : k < n := by
    rcases Nat.lt_or_ge k n with h | h
    ·exact h
    ·rw [List.getElem?_eq_none (by rw [List.length_take]; omega)] at hu; cases hu
   rw [List.getElem?_take_of_lt hk] at hu
   exact row_cell hga hu
  have hr := run_append_grow (P := Tryz.prog) (w.alloc (.cells (strV (List.replicate j m)).toArray 9)) 28 28 9 i (.string { data := #[] }) Tryz.underlying28 hi hz ⟨g, 0, none⟩ n cap (cur.take n) (by rw [hs, List.length_take]; omega) holds ⟨w.heap.size, 0, none⟩ j j (strV (List.replicate j m)) (by rw [hs, strV_length, List.length_replicate, Nat.mul_one]) hnews (by omega) (by omega) (growslice_fits (by omega) (by rw [hby]; omega))
  refine ⟨_, _, _, _, hr, ?_, ?_, ?_⟩
  ·refine Or.inr ⟨w.heap.size + 1, n + j, grownCap (w.alloc (.cells (strV (List.replicate j m)).toArray 9)) (n + j) cap 9, cur.take n ++ strV (List.replicate j m) ++ (Builtin.zeroCells (Value.string { data := #[] }).cells (grownCap (w.alloc (.cells (strV (List.replicate j m)).toArray 9)) (n + j) cap 9 - (n + j))).toList, by simp, ?_, ?_, by unfold maxLen; omega, ?_⟩
   ·unfold StrRow
    show ((w.heap.push _).push _)[w.heap.size + 1]? = _
    rw [show w.heap.size + 1 = (w.heap.push (Obj.cells (strV (List.replicate j m)).toArray 9)).size by simp, Array.getElem?_push_size]
    simp
   ·rw [List.length_append, List.length_append, List.length_take, strV_length, List.length_replicate]; omega
   ·intro k hk
    rw [List.append_assoc]
    by_cases h1 : k < n
    ·rw [List.getElem?_append_left (by rw [List.length_take]; omega), List.getElem?_take_of_lt h1]
     exact hf k h1
    ·rw [List.getElem?_append_right (by rw [List.length_take]; omega), List.length_take, Nat.min_eq_left (by omega), List.getElem?_append_left (by rw [strV_length, List.length_replicate]; omega)]
     simp only [strV, List.map_replicate, List.getElem?_replicate]
     rw [if_pos (by omega)]
  ·exact MPB.below ((((Below.refl _ _).alloc (Nat.le_refl _) _).drew).alloc (by simp) _)
  ·exact ⟨rfl, rfl, rfl, by simp; omega, fun k hk _ => by
    have h := ((((Below.refl w.heap.size w).alloc (Nat.le_refl _) (.cells (strV (List.replicate j m)).toArray 9)).drew).alloc (by simp) (.cells ((cur.take n).toArray ++ (strV (List.replicate j m)).toArray ++ Builtin.zeroCells (Value.string { data := #[] }).cells (grownCap (w.alloc (.cells (strV (List.replicate j m)).toArray 9)) (n + j) cap 9 - (n + j))) 9)).block k hk
    exact h⟩
def LFull (w : World) (l : Value) (m : ByteArray) : Prop :=
 (l = .slice none 0 0 \/ ∃ b off, l = .slice (some ⟨b, off, none⟩) 0 0) \/ ∃ g n cap cur, l = .slice (some ⟨g, 0, none⟩) n cap /\ StrRow w g cur /\ cur.length = cap /\ n <= cap /\ n <= 549755813888 /\ ∀ i, i < n -> cur[i]? = some (.string m)
theorem LFull.step {m : ByteArray} {w w' : World} {l : Value} (h : LFull w l m) (k : MPB m w w') : LFull w' l m := by
 rcases h with h | ⟨g, n, cap, cur, hv, hg, hc, hn, hm, hi⟩
 ·exact Or.inl h
 ·obtain ⟨c1, h1, l1, p1⟩ := k g cur hg
  exact Or.inr ⟨g, n, cap, c1, hv, h1, by omega, hn, hm, fun i hl => p1 i (hi i hl)⟩
theorem LFull.full {m : ByteArray} {w : World} {l : Value} (h : LFull w l m) : FullAt w l m := by
 rcases h with (rfl | ⟨b, off, rfl⟩) | ⟨g, n, cap, cur, rfl, hg, hc, hn, hm, hi⟩
 ·exact ⟨[], Or.inl ⟨rfl, rfl⟩, Nat.zero_le _, rfl⟩
 ·exact ⟨[], Or.inr ⟨b, off, 0, rfl, fun i x hx => by simp at hx⟩, Nat.zero_le _, rfl⟩
 ·exact FullB.at (Or.inr ⟨g, n, cap, cur, rfl, hg, by omega, by unfold maxLen; omega, hi⟩)
theorem app_none (w : World) (a0 : Option Addr) (m : ByteArray) (j : Nat) (hj : 1 <= j) (hj3 : j <= 3) :
  ∃ gx nx cx w', (Builtin.append_ #[28, 28] 28 #[.slice a0 0 0, .slice (some ⟨w.heap.size, 0, none⟩) j j]).run Tryz.prog (w.alloc (.cells (strV (List.replicate j m)).toArray 9)) = .ok (.slice (some ⟨gx, 0, none⟩) nx cx) w' /\
   FullB w' (.slice (some ⟨gx, 0, none⟩) nx cx) m /\ Below w.heap.size w w' := by
 obtain ⟨i, hi, hz, hs, hby⟩ := info_str
 have hnews : ∀ k u, (strV (List.replicate j m))[k]? = some u -> (w.alloc (.cells (strV (List.replicate j m)).toArray 9)).cell? ((⟨w.heap.size, 0, none⟩ : Addr).add k) = some u := by
  intro k u hu
  rw [add_at]
  refine row_cell (cs := strV (List.replicate j m)) (t := 9) (fz := (0, 0)) ?_ hu
  show (w.heap.push _)[w.heap.size]? = _
  simp
 have hfull : ∀ (cap : Nat) (c : Nat), FullB ((w.alloc (.cells (strV (List.replicate j m)).toArray 9)).drew.alloc (.cells ((strV (List.replicate j m)).toArray ++ Builtin.zeroCells (Value.string { data := #[] }).cells c) 9)) (.slice (some ⟨w.heap.size + 1, 0, none⟩) j cap) m := by
  intro cap c
  refine Or.inr ⟨w.heap.size + 1, j, cap, strV (List.replicate j m) ++ (Builtin.zeroCells (Value.string { data := #[] }).cells c).toList, rfl, ?_, ?_, by unfold maxLen; omega, ?_⟩
  ·unfold StrRow
   show ((w.heap.push _).push _)[w.heap.size + 1]? = _
   rw [show w.heap.size + 1 = (w.heap.push (Obj.cells (strV (List.replicate j m)).toArray 9)).size by simp, Array.getElem?_push_size]
   simp
  ·rw [List.length_append, strV_length, List.length_replicate]; omega
  ·intro k hk
   rw [List.getElem?_append_left (by rw [strV_length, List.length_replicate]; omega)]
   simp only [strV, List.map_replicate, List.getElem?_replicate]
   rw [if_pos hk]
 have hbel : ∀ o, Below w.heap.size w ((w.alloc (.cells (strV (List.replicate j m)).toArray 9)).drew.alloc o) := fun o => (((Below.refl _ _).alloc (Nat.le_refl _) _).drew).alloc (by simp) _
 cases a0 with
 | none =>
  have hr := run_append_nil (P := Tryz.prog) (w.alloc (.cells (strV (List.replicate j m)).toArray 9)) 28 28 9 i (.string { data := #[] }) Tryz.underlying28 hi hz ⟨w.heap.size, 0, none⟩ j j (strV (List.replicate j m)) (by rw [hs, strV_length, List.length_replicate, Nat.mul_one]) hnews (by omega) (by omega) (by rw [hby]; omega)
  refine ⟨_, _, _, _, hr, ?_, hbel _⟩
  rw [show (w.alloc (.cells (strV (List.replicate j m)).toArray 9)).heap.size = w.heap.size + 1 by simp]
  exact hfull _ _
 | some a =>
  have hr := run_append_grow (P := Tryz.prog) (w.alloc (.cells (strV (List.replicate j m)).toArray 9)) 28 28 9 i (.string { data := #[] }) Tryz.underlying28 hi hz a 0 0 [] (by simp) (by intro k u hu; simp at hu) ⟨w.heap.size, 0, none⟩ j j (strV (List.replicate j m)) (by rw [hs, strV_length, List.length_replicate, Nat.mul_one]) hnews (by omega) (by omega) (growslice_fits (by omega) (by rw [hby]; omega))
  simp only [Nat.zero_add, Array.empty_append] at hr
  refine ⟨_, _, _, _, hr, ?_, hbel _⟩
  rw [show (w.alloc (.cells (strV (List.replicate j m)).toArray 9)).heap.size = w.heap.size + 1 by simp]
  exact hfull _ _
def rowOf : Value -> Option Nat
 | .slice (some a) n cap => if n = 0 /\ cap = 0 then none else some a.block
 | _ => none
theorem app_L (w : World) (l : Value) (m : ByteArray) (j : Nat) (hj : 1 <= j) (hj3 : j <= 3) (h : LFull w l m) :
  ∃ gx nx cx w', (Builtin.append_ #[28, 28] 28 #[l, .slice (some ⟨w.heap.size, 0, none⟩) j j]).run Tryz.prog (w.alloc (.cells (strV (List.replicate j m)).toArray 9)) = .ok (.slice (some ⟨gx, 0, none⟩) nx cx) w' /\
   FullB w' (.slice (some ⟨gx, 0, none⟩) nx cx) m /\ MPB m w w' /\ w.grownBy w' (rowOf l) := by
 rcases h with (rfl | ⟨b, off, rfl⟩) | ⟨g, n, cap, cur, rfl, hg, hc, hn, hm, hi⟩
 ·obtain ⟨gx, nx, cx, w', hr, hf, hb⟩ := app_none w none m j hj hj3
  exact ⟨gx, nx, cx, w', hr, hf, MPB.below hb, ⟨hb.os, hb.tape, hb.output, hb.size, fun k hk _ => hb.block k hk⟩⟩
 ·obtain ⟨gx, nx, cx, w', hr, hf, hb⟩ := app_none w (some ⟨b, off, none⟩) m j hj hj3
  exact ⟨gx, nx, cx, w', hr, hf, MPB.below hb, ⟨hb.os, hb.tape, hb.output, hb.size, fun k hk _ => hb.block k hk⟩⟩
 ·obtain ⟨gx, nx, cx, w', hr, hf, hp, hk⟩ := app_full w g n cap cur m j hj hg hc hn (by omega) hi
  refine ⟨gx, nx, cx, w', hr, hf, hp, ?_⟩
  by_cases hz : n = 0 /\ cap = 0
  ·obtain ⟨rfl, rfl⟩ := hz
   obtain ⟨gy, ny, cy, w2, hr2, -, hb⟩ := app_none w (some ⟨g, 0, none⟩) m j hj hj3
   rw [hr] at hr2
   injection hr2 with e1 e2
   subst e2
   exact ⟨hb.os, hb.tape, hb.output, hb.size, fun k hk _ => hb.block k hk⟩
  ·have e : rowOf (.slice (some ⟨g, 0, none⟩) n cap) = some g := by
    show (if n = 0 /\ cap = 0 then none else some g) = some g
    rw [if_neg hz]
   rw [e]; exact hk
theorem Tryz.infoSl : (Tryz.prog.info? 28).map (fun i => (i.zero, i.size, i.bytes)) = some (some (.slice none 0 0), 1, 24) := by kernel_rfl
theorem info_sl : ∃ i, Tryz.prog.info? 28 = some i /\ i.zero = some (.slice none 0 0) /\ i.size = 1 /\ i.bytes = 24 := by
 obtain ⟨i, hi, hzz⟩ := Option.map_eq_some_iff.1 Tryz.infoSl
 simp only [Prod.mk.injEq] at hzz
 exact ⟨i, hi, hzz.1, hzz.2.1, hzz.2.2⟩
theorem app_val (w : World) (base : Nat) (v : Value) (n : Nat) (us : List Value) (u : Value) (hu : u.oneCell' = true) (hown : w.ownsRow base 28 1 v n us) (hb : base <= w.heap.size) (hl : (n + 1) * 24 <= 140737488355328) :
  ∃ g c w', (Builtin.append_ #[59, 59] 59 #[v, .slice (some ⟨w.heap.size, 0, none⟩) 1 1]).run Tryz.prog (w.alloc (.cells #[u] 28)) = .ok (.slice (some ⟨g, 0, none⟩) (n + 1) c) w' /\
   w'.ownsRow base 28 1 (.slice (some ⟨g, 0, none⟩) (n + 1) c) (n + 1) (us ++ [u]) /\ w.grownBy w' v.ownBlock /\ (v.ownBlock = some g \/ w.heap.size <= g) := by
 obtain ⟨i, hi, hz, hs, hby⟩ := info_sl
 have hnews : ∀ j x, ([u] : List Value)[j]? = some x -> (w.alloc (.cells #[u] 28)).cell? ((⟨w.heap.size, 0, none⟩ : Addr).add j) = some x := by
  intro j x hj
  match j, hj with
  | 0, hj => simp at hj; subst hj; simp [Addr.add]
 have hone : ∀ x ∈ ([u] : List Value), x.oneCell' = true := by intro x hx; simp at hx; subst hx; exact hu
 obtain ⟨v', w', hr, h2, h3, h4⟩ := run_append_own (P := Tryz.prog) (w.alloc (.cells #[u] 28)) base 59 59 28 i (.slice none 0 0) 1 24 Tryz.underlying59 hi hz hs hby rfl (by decide) v n us (hown.alloc _) ⟨w.heap.size, 0, none⟩ 1 1 [u] rfl hnews hone (by unfold maxLen; omega) (by omega) (by simp; omega)
 rcases h2.2 with ⟨hv, h0⟩ | ⟨g, cap, cur, hv, -⟩
 ·omega
 subst hv
 refine ⟨g, cap, w', hr, h2, grown_alloc h3, ?_⟩
 have hown' := hown.alloc (.cells #[u] 28)
 rcases hown'.2 with ⟨rfl, rfl⟩ | ⟨g0, cap0, cur0, rfl, hbg, hg0, hnc, hcm, hcs, htake⟩
 ·have hr2 := run_append_nil (P := Tryz.prog) (w.alloc (.cells #[u] 28)) 59 59 28 i (.slice none 0 0) Tryz.underlying59 hi hz ⟨w.heap.size, 0, none⟩ 1 1 [u] (by rw [hs]; rfl) hnews (by omega) (by omega) (by rw [hby]; omega)
  rw [hr] at hr2
  injection hr2 with e1 e2
  injection e1 with e3
  injection e3 with e4
  injection e4 with e5
  right; rw [e5]; simp
 ·by_cases hroom : n + 1 <= cap0
  ·have hr2 := run_append_room (P := Tryz.prog) (w.alloc (.cells #[u] 28)) 59 59 28 i Tryz.underlying59 hi g0 n cap0 cur0 hg0 ⟨w.heap.size, 0, none⟩ 1 1 [u] (by rw [hs]; rfl) hnews hone hroom (by rw [hs]; simp; omega)
   rw [hr] at hr2
   injection hr2 with e1 e2
   injection e1 with e3
   injection e3 with e4
   injection e4 with e5
   left; rw [e5]; rfl
  ·have hr2 := run_append_grow (P := Tryz.prog) (w.alloc (.cells #[u] 28)) 59 59 28 i (.slice none 0 0) Tryz.underlying59 hi hz ⟨g0, 0, none⟩ n cap0 us (by rw [hs]; exact hown.1) (hown'.cells (g := g0) rfl) ⟨w.heap.size, 0, none⟩ 1 1 [u] (by rw [hs]; rfl) hnews (by omega) (by omega) (growslice_fits (by omega) (by rw [hby]; omega))
   rw [hr] at hr2
   injection hr2 with e1 e2
   injection e1 with e3
   injection e3 with e4
   injection e4 with e5
   right; rw [e5]; simp
theorem fullB_one {w : World} {v : Value} {m : ByteArray} (h : FullB w v m) : v.oneCell' = true := by
 rcases h with rfl | ⟨g, n, cap, cur, rfl, -⟩ <;> rfl
theorem lfull_one {w : World} {v : Value} {m : ByteArray} (h : LFull w v m) : v.oneCell' = true := by
 rcases h with (rfl | ⟨b, off, rfl⟩) | ⟨g, n, cap, cur, rfl, -⟩ <;> rfl
theorem lfull_row {w : World} {l : Value} {m : ByteArray} (h : LFull w l m) {k : Nat} (hk : rowOf l = some k) : ∃ cur, StrRow w k cur := by
 rcases h with (rfl | ⟨b, off, rfl⟩) | ⟨g, n, cap, cur, rfl, hg, -⟩
 ·cases hk
 ·have : rowOf (.slice (some ⟨b, off, none⟩) 0 0) = none := rfl
  rw [this] at hk; cases hk
 ·have e : rowOf (.slice (some ⟨g, 0, none⟩) n cap) = none \/ rowOf (.slice (some ⟨g, 0, none⟩) n cap) = some g := by
   show (if n = 0 /\ cap = 0 then none else some g) = none \/ (if n = 0 /\ cap = 0 then none else some g) = some g
   split
   ·exact Or.inl rfl
   ·exact Or.inr rfl
  rcases e with e | e
  ·rw [e] at hk; cases hk
  ·rw [e] at hk; injection hk with hk; subst hk; exact ⟨cur, hg⟩
theorem row_type {w : World} {g : Nat} {a b : List Value} {s t : TypeId} {f f' : Nat × Nat} (h : w.heap[g]? = some (.cells a.toArray s f)) (k : w.heap[g]? = some (.cells b.toArray t f')) : s = t := by
 rw [h] at k; injection k with k; injection k
theorem lw_kept {w w' : World} {b : Nat} {ps l1 l3 : Value} {row : Option Nat} (h : LwAt w b ps l1 l3) (hk : w.grownBy w' row) (hne : row ≠ some b) : LwAt w' b ps l1 l3 := by
 unfold LwAt at h ⊢; rw [hk.block b (row_lt h) (Ne.symm hne)]; exact h
theorem owns_kept {w w' : World} {base : Nat} {v : Value} {n : Nat} {us : List Value} {row : Option Nat} (h : w.ownsRow base 28 1 v n us) (hk : w.grownBy w' row) (hne : ∀ k, v.ownBlock = some k -> row ≠ some k) : w'.ownsRow base 28 1 v n us := by
 refine h.kept hk ?_
 cases e : v.ownBlock with
 | none => exact Or.inl rfl
 | some k => exact Or.inr (fun e2 => hne k e e2.symm)
theorem owns_type {w : World} {base : Nat} {v : Value} {n : Nat} {us : List Value} (h : w.ownsRow base 28 1 v n us) {k : Nat} (hk : v.ownBlock = some k) : ∃ cur : List Value, w.heap[k]? = some (.cells cur.toArray 28 (0, 0)) := by
 rcases h.2 with ⟨rfl, -⟩ | ⟨g, cap, cur, rfl, -, hh, -⟩
 ·cases hk
 ·have e : g = k := by injection hk
  subst e
  exact ⟨cur.toList, by simpa using hh⟩
theorem mpb_kept {m : ByteArray} {w w' : World} {row : Option Nat} (hk : w.grownBy w' row) (hne : ∀ g cur, StrRow w g cur -> row ≠ some g) : MPB m w w' :=
 MPB.of_same fun g cur hg => hk.block g (row_lt hg) (Ne.symm (hne g cur hg))
theorem mpb_cell {m : ByteArray} {w : World} {b : Nat} {ps l1 l3 : Value} (h : LwAt w b ps l1 l3) (j : Nat) (u : Value) : MPB m w (w.setCell ⟨b, j, none⟩ u) :=
 MPB.of_same fun g cur hg => Below.heap_setCell _ _ _ _ (fun e => by
  have e' : g = b := e
  subst e'
  have := row_type hg h
  revert this; decide)
theorem lw_set1 {w : World} {b : Nat} {ps l1 l3 : Value} (h : LwAt w b ps l1 l3) (u : Value) : LwAt (w.setCell ⟨b, 1, none⟩ u) b ps u l3 := row_set h 1 u
theorem lw_set2 {w : World} {b : Nat} {ps l1 l3 : Value} (h : LwAt w b ps l1 l3) (u : Value) : LwAt (w.setCell ⟨b, 2, none⟩ u) b ps l1 u := row_set h 2 u
theorem owns_set {w : World} {base b : Nat} {v : Value} {n : Nat} {us : List Value} (h : w.ownsRow base 28 1 v n us) (hb : b < base) (j : Nat) (u : Value) : (w.setCell ⟨b, j, none⟩ u).ownsRow base 28 1 v n us := ownsRow_setCell_below h hb u
structure St (w : World) (b base : Nat) (ps l1 l3 l : Value) (n1 n3 : Nat) (us ws : List Value) (m : ByteArray) : Prop where
 lw : LwAt w b ps l1 l3
 o1 : w.ownsRow base 28 1 l1 n1 us
 o3 : w.ownsRow base 28 1 l3 n3 ws
 lf : LFull w l m
 sep : ∀ k, l1.ownBlock = some k -> l3.ownBlock ≠ some k
 hb : b < base
 hbase : base <= w.heap.size
theorem row_not {w : World} {l : Value} {m : ByteArray} (h : LFull w l m) {base : Nat} {v : Value} {n : Nat} {us : List Value} (o : w.ownsRow base 28 1 v n us) : ∀ k, v.ownBlock = some k -> rowOf l ≠ some k := by
 intro k hk e
 obtain ⟨cur, hc⟩ := lfull_row h e
 obtain ⟨c2, hd⟩ := owns_type o hk
 have := row_type hc hd
 revert this; decide
theorem row_notb {w : World} {l : Value} {m : ByteArray} (h : LFull w l m) {b : Nat} {ps l1 l3 : Value} (o : LwAt w b ps l1 l3) : rowOf l ≠ some b := by
 intro e
 obtain ⟨cur, hc⟩ := lfull_row h e
 have := row_type hc o
 revert this; decide
theorem stA {w : World} {b base : Nat} {ps l1 l3 l : Value} {n1 n3 : Nat} {us ws : List Value} {m : ByteArray} (s : St w b base ps l1 l3 l n1 n3 us ws m) (j : Nat) (hj : 1 <= j) (hj3 : j <= 3) :
  ∃ gx nx cx w', (Builtin.append_ #[28, 28] 28 #[l, .slice (some ⟨w.heap.size, 0, none⟩) j j]).run Tryz.prog (w.alloc (.cells (strV (List.replicate j m)).toArray 9)) = .ok (.slice (some ⟨gx, 0, none⟩) nx cx) w' /\
   FullB w' (.slice (some ⟨gx, 0, none⟩) nx cx) m /\ MPB m w w' /\ St w' b base ps l1 l3 l n1 n3 us ws m /\ w.grownBy w' (rowOf l) := by
 obtain ⟨gx, nx, cx, w', hr, hf, hp, hk⟩ := app_L w l m j hj hj3 s.lf
 exact ⟨gx, nx, cx, w', hr, hf, hp, ⟨lw_kept s.lw hk (row_notb s.lf s.lw), owns_kept s.o1 hk (row_not s.lf s.o1), owns_kept s.o3 hk (row_not s.lf s.o3), s.lf.step hp, s.sep, s.hb, Nat.le_trans s.hbase hk.size⟩, hk⟩
theorem own_notb {w : World} {b base : Nat} {v : Value} {n : Nat} {us : List Value} (o : w.ownsRow base 28 1 v n us) (hb : b < base) : v.ownBlock ≠ some b := by
 intro e
 have := (o.lt b e).1
 omega
theorem own_str {w : World} {base : Nat} {v : Value} {n : Nat} {us : List Value} (o : w.ownsRow base 28 1 v n us) : ∀ g cur, StrRow w g cur -> v.ownBlock ≠ some g := by
 intro g cur hg e
 obtain ⟨c2, hd⟩ := owns_type o e
 have := row_type hg hd
 revert this; decide
theorem stB {w : World} {b base : Nat} {ps l1 l3 l : Value} {n1 n3 : Nat} {us ws : List Value} {m : ByteArray} (s : St w b base ps l1 l3 l n1 n3 us ws m) (u : Value) (hu : u.oneCell' = true) (hl : (n1 + 1) * 24 <= 140737488355328) :
  ∃ g c w', (Builtin.append_ #[59, 59] 59 #[l1, .slice (some ⟨w.heap.size, 0, none⟩) 1 1]).run Tryz.prog (w.alloc (.cells #[u] 28)) = .ok (.slice (some ⟨g, 0, none⟩) (n1 + 1) c) w' /\
   LwAt w' b ps l1 l3 /\ MPB m w (w'.setCell ⟨b, 1, none⟩ (.slice (some ⟨g, 0, none⟩) (n1 + 1) c)) /\ St (w'.setCell ⟨b, 1, none⟩ (.slice (some ⟨g, 0, none⟩) (n1 + 1) c)) b base ps (.slice (some ⟨g, 0, none⟩) (n1 + 1) c) l3 l (n1 + 1) n3 (us ++ [u]) ws m /\ w.grownBy w' l1.ownBlock /\ (l1.ownBlock = some g \/ w.heap.size <= g) := by
 obtain ⟨g, c, w', hr, ho, hk, hblk⟩ := app_val w base l1 n1 us u hu s.o1 s.hbase hl
 have hlw := lw_kept s.lw hk (own_notb s.o1 s.hb)
 have hmp : MPB m w (w'.setCell ⟨b, 1, none⟩ (.slice (some ⟨g, 0, none⟩) (n1 + 1) c)) := (mpb_kept hk (own_str s.o1)).trans (mpb_cell hlw 1 _)
 refine ⟨g, c, w', hr, hlw, hmp, ⟨lw_set1 hlw _, owns_set ho s.hb _ _, owns_set (owns_kept s.o3 hk (fun k hk3 e => s.sep k e hk3)) s.hb _ _, s.lf.step hmp, ?_, s.hb, ?_⟩, hk, hblk⟩
 ·intro k hk1 hk3
  have e : g = k := by injection hk1
  subst e
  rcases hblk with h | h
  ·exact s.sep g h hk3
  ·have := (s.o3.lt g hk3).2; omega
 ·have := hk.size; have := s.hbase; simp [World.setCell]; omega
theorem stC {w : World} {b base : Nat} {ps l1 l3 l : Value} {n1 n3 : Nat} {us ws : List Value} {m : ByteArray} (s : St w b base ps l1 l3 l n1 n3 us ws m) (u : Value) (hu : u.oneCell' = true) (hl : (n3 + 1) * 24 <= 140737488355328) :
  ∃ g c w', (Builtin.append_ #[59, 59] 59 #[l3, .slice (some ⟨w.heap.size, 0, none⟩) 1 1]).run Tryz.prog (w.alloc (.cells #[u] 28)) = .ok (.slice (some ⟨g, 0, none⟩) (n3 + 1) c) w' /\
   LwAt w' b ps l1 l3 /\ MPB m w (w'.setCell ⟨b, 2, none⟩ (.slice (some ⟨g, 0, none⟩) (n3 + 1) c)) /\ St (w'.setCell ⟨b, 2, none⟩ (.slice (some ⟨g, 0, none⟩) (n3 + 1) c)) b base ps l1 (.slice (some ⟨g, 0, none⟩) (n3 + 1) c) l n1 (n3 + 1) us (ws ++ [u]) m /\ w.grownBy w' l3.ownBlock /\ (l3.ownBlock = some g \/ w.heap.size <= g) := by
 obtain ⟨g, c, w', hr, ho, hk, hblk⟩ := app_val w base l3 n3 ws u hu s.o3 s.hbase hl
 have hlw := lw_kept s.lw hk (own_notb s.o3 s.hb)
 have hmp : MPB m w (w'.setCell ⟨b, 2, none⟩ (.slice (some ⟨g, 0, none⟩) (n3 + 1) c)) := (mpb_kept hk (own_str s.o3)).trans (mpb_cell hlw 2 _)
 refine ⟨g, c, w', hr, hlw, hmp, ⟨lw_set2 hlw _, owns_set (owns_kept s.o1 hk (fun k hk1 e => s.sep k hk1 e)) s.hb _ _, owns_set ho s.hb _ _, s.lf.step hmp, ?_, s.hb, ?_⟩, hk, hblk⟩
 ·intro k hk1 hk3
  have e : g = k := by injection hk3
  subst e
  rcases hblk with h | h
  ·exact s.sep g hk1 h
  ·have := (s.o1.lt g hk1).2; omega
 ·have := hk.size; have := s.hbase; simp [World.setCell]; omega
def TPost (w : World) (b base : Nat) (ps l1 l3 l : Value) (n1 n3 : Nat) (us ws : List Value) (m : ByteArray) (w' : World) : Prop :=
 ∃ l1' l3' v1 v2 v3, St w' b base ps l1' l3' l (n1 + 1) (n3 + 1 + 1 + 1) (us ++ [l]) (ws ++ [v1] ++ [v2] ++ [v3]) m /\ FullB w' v1 m /\ FullB w' v2 m /\ FullB w' v3 m /\ w.heap.size <= w'.heap.size /\ w'.os = w.os /\ w'.tape = w.tape /\ w'.output = w.output /\
  ∀ k, k < w.heap.size -> k ≠ b -> rowOf l ≠ some k -> l1.ownBlock ≠ some k -> l3.ownBlock ≠ some k -> w'.heap[k]? = w.heap[k]?
theorem set_other (w : World) (b j : Nat) (u : Value) (k : Nat) (h : k ≠ b) : (w.setCell ⟨b, j, none⟩ u).heap[k]? = w.heap[k]? := Below.heap_setCell _ _ _ _ h
theorem set_size (w : World) (a : Addr) (u : Value) : (w.setCell a u).heap.size = w.heap.size := by simp [World.setCell]
theorem bd3 (n : Nat) (h : (n + 3) * 24 <= 140737488355328) : (n + 1) * 24 <= 140737488355328 /\ (n + 1 + 1) * 24 <= 140737488355328 /\ (n + 1 + 1 + 1) * 24 <= 140737488355328 :=
 ⟨Nat.le_trans (Nat.mul_le_mul_right 24 (Nat.add_le_add_left (by decide) n)) h, Nat.le_trans (Nat.mul_le_mul_right 24 (show n + 2 <= n + 3 from Nat.add_le_add_left (by decide) n)) h, h⟩
theorem takes_tail {w : World} {b base : Nat} {ps l1 l3 l : Value} {n1 n3 : Nat} {us ws : List Value} {m : ByteArray} (s : St w b base ps l1 l3 l n1 n3 us ws m) (h1 : (n1 + 1) * 24 <= 140737488355328) (h3 : (n3 + 3) * 24 <= 140737488355328) :
  ∃ x1 y1 z1 w1 x2 y2 z2 w2 x3 y3 z3 w3 g4 c4 w4 g5 c5 w5 g6 c6 w6 g7 c7 w7,
   (Builtin.append_ #[28, 28] 28 #[l, .slice (some ⟨w.heap.size, 0, none⟩) 1 1]).run Tryz.prog (w.alloc (.cells #[.string m] 9)) = .ok (.slice (some ⟨x1, 0, none⟩) y1 z1) w1 /\
   (Builtin.append_ #[28, 28] 28 #[l, .slice (some ⟨w1.heap.size, 0, none⟩) 2 2]).run Tryz.prog (w1.alloc (.cells #[.string m, .string m] 9)) = .ok (.slice (some ⟨x2, 0, none⟩) y2 z2) w2 /\
   (Builtin.append_ #[28, 28] 28 #[l, .slice (some ⟨w2.heap.size, 0, none⟩) 3 3]).run Tryz.prog (w2.alloc (.cells #[.string m, .string m, .string m] 9)) = .ok (.slice (some ⟨x3, 0, none⟩) y3 z3) w3 /\
   (Builtin.append_ #[59, 59] 59 #[l1, .slice (some ⟨w3.heap.size, 0, none⟩) 1 1]).run Tryz.prog (w3.alloc (.cells #[l] 28)) = .ok (.slice (some ⟨g4, 0, none⟩) (n1 + 1) c4) w4 /\
   (Builtin.append_ #[59, 59] 59 #[l3, .slice (some ⟨w4.heap.size, 0, none⟩) 1 1]).run Tryz.prog ((w4.setCell ⟨b, 1, none⟩ (.slice (some ⟨g4, 0, none⟩) (n1 + 1) c4)).alloc (.cells #[.slice (some ⟨x1, 0, none⟩) y1 z1] 28)) = .ok (.slice (some ⟨g5, 0, none⟩) (n3 + 1) c5) w5 /\
   (Builtin.append_ #[59, 59] 59 #[.slice (some ⟨g5, 0, none⟩) (n3 + 1) c5, .slice (some ⟨w5.heap.size, 0, none⟩) 1 1]).run Tryz.prog ((w5.setCell ⟨b, 2, none⟩ (.slice (some ⟨g5, 0, none⟩) (n3 + 1) c5)).alloc (.cells #[.slice (some ⟨x2, 0, none⟩) y2 z2] 28)) = .ok (.slice (some ⟨g6, 0, none⟩) (n3 + 1 + 1) c6) w6 /\
   (Builtin.append_ #[59, 59] 59 #[.slice (some ⟨g6, 0, none⟩) (n3 + 1 + 1) c6, .slice (some ⟨w6.heap.size, 0, none⟩) 1 1]).run Tryz.prog ((w6.setCell ⟨b, 2, none⟩ (.slice (some ⟨g6, 0, none⟩) (n3 + 1 + 1) c6)).alloc (.cells #[.slice (some ⟨x3, 0, none⟩) y3 z3] 28)) = .ok (.slice (some ⟨g7, 0, none⟩) (n3 + 1 + 1 + 1) c7) w7 /\
   LwAt w3 b ps l1 l3 /\ LwAt w4 b ps l1 l3 /\ LwAt w5 b ps (.slice (some ⟨g4, 0, none⟩) (n1 + 1) c4) l3 /\ LwAt w6 b ps (.slice (some ⟨g4, 0, none⟩) (n1 + 1) c4) (.slice (some ⟨g5, 0, none⟩) (n3 + 1) c5) /\ LwAt w7 b ps (.slice (some ⟨g4, 0, none⟩) (n1 + 1) c4) (.slice (some ⟨g6, 0, none⟩) (n3 + 1 + 1) c6) /\
   TPost w b base ps l1 l3 l n1 n3 us ws m (w7.setCell ⟨b, 2, none⟩ (.slice (some ⟨g7, 0, none⟩) (n3 + 1 + 1 + 1) c7)) := by
 obtain ⟨e1, e2, e3⟩ := bd3 n3 h3
 obtain ⟨x1, y1, z1, w1, r1, f1, p1, s1, k1⟩ := stA s 1 (by decide) (by decide)
 obtain ⟨x2, y2, z2, w2, r2, f2, p2, s2, k2⟩ := stA s1 2 (by decide) (by decide)
 obtain ⟨x3, y3, z3, w3, r3, f3, p3, s3, k3⟩ := stA s2 3 (by decide) (by decide)
 obtain ⟨g4, c4, w4, r4, lw4, p4, s4, k4, q4⟩ := stB s3 l (lfull_one s3.lf) h1
 obtain ⟨g5, c5, w5, r5, lw5, p5, s5, k5, q5⟩ := stC s4 (.slice (some ⟨x1, 0, none⟩) y1 z1) (fullB_one f1) e1
 obtain ⟨g6, c6, w6, r6, lw6, p6, s6, k6, q6⟩ := stC s5 (.slice (some ⟨x2, 0, none⟩) y2 z2) (fullB_one f2) e2
 obtain ⟨g7, c7, w7, r7, lw7, p7, s7, k7, q7⟩ := stC s6 (.slice (some ⟨x3, 0, none⟩) y3 z3) (fullB_one f3) e3
 have d1 := k1.size
 have d2 := k2.size
 have d3 := k3.size
 have d4 := k4.size
 have d5 := k5.size
 have d6 := k6.size
 have d7 := k7.size
 rw [set_size] at d5 d6 d7 q5 q6 q7
 have r5' := r5
 have r6' := r6
 have r7' := r7
 rw [set_size] at r5' r6' r7'
 refine ⟨x1, y1, z1, w1, x2, y2, z2, w2, x3, y3, z3, w3, g4, c4, w4, g5, c5, w5, g6, c6, w6, g7, c7, w7, r1, r2, r3, r4, r5', r6', r7', s3.lw, lw4, lw5, lw6, lw7, ?_⟩
 refine ⟨_, _, _, _, _, s7, ?_, ?_, ?_, ?_, ?_, ?_, ?_, ?_⟩
 ·exact (((((f1.step p2).step p3).step p4).step p5).step p6).step p7
 ·exact ((((f2.step p3).step p4).step p5).step p6).step p7
 ·exact (((f3.step p4).step p5).step p6).step p7
 ·rw [set_size]; exact Nat.le_trans d1 (Nat.le_trans d2 (Nat.le_trans d3 (Nat.le_trans d4 (Nat.le_trans d5 (Nat.le_trans d6 d7)))))
 ·exact k7.os.trans (k6.os.trans (k5.os.trans (k4.os.trans (k3.os.trans (k2.os.trans k1.os)))))
 ·exact k7.tape.trans (k6.tape.trans (k5.tape.trans (k4.tape.trans (k3.tape.trans (k2.tape.trans k1.tape)))))
 ·exact k7.output.trans (k6.output.trans (k5.output.trans (k4.output.trans (k3.output.trans (k2.output.trans k1.output)))))
 ·clear r1 r2 r3 r4 r5 r6 r7 r5' r6' r7' s s1 s2 s3 s4 s5 s6 s7 f1 f2 f3 p1 p2 p3 p4 p5 p6 p7 lw4 lw5 lw6 lw7 e1 e2 e3 h1 h3
  intro k hk hb hl hr1 hr3
  have t1 : k < w1.heap.size := Nat.lt_of_lt_of_le hk d1
  have t2 : k < w2.heap.size := Nat.lt_of_lt_of_le t1 d2
  have t3 : k < w3.heap.size := Nat.lt_of_lt_of_le t2 d3
  have t4 : k < w4.heap.size := Nat.lt_of_lt_of_le t3 d4
  have t5 : k < w5.heap.size := Nat.lt_of_lt_of_le t4 d5
  have t6 : k < w6.heap.size := Nat.lt_of_lt_of_le t5 d6
  have g5k : g5 ≠ k := by
   rcases q5 with e | e
   ·intro e2; subst e2; exact hr3 e
   ·exact fun e2 => absurd (e2 ▸ e) (Nat.not_le_of_lt t4)
  have g6k : g6 ≠ k := by
   rcases q6 with e | e
   ·intro e2; subst e2; exact g5k (by injection e)
   ·exact fun e2 => absurd (e2 ▸ e) (Nat.not_le_of_lt t5)
  rw [set_other _ _ _ _ _ hb, k7.block k (by rw [set_size]; exact t6) (by intro e; injection e with e; exact g6k e.symm), set_other _ _ _ _ _ hb, k6.block k (by rw [set_size]; exact t5) (by intro e; injection e with e; exact g5k e.symm), set_other _ _ _ _ _ hb, k5.block k (by rw [set_size]; exact t4) (Ne.symm hr3), set_other _ _ _ _ _ hb, k4.block k t3 (Ne.symm hr1), k3.block k t2 (Ne.symm hl), k2.block k t1 (Ne.symm hl), k1.block k hk (Ne.symm hl)]
theorem row_cur {w : World} {g : Nat} {cur : List Value} (h : StrRow w g cur) {k : Nat} (hk : k < cur.length) : ∃ u, w.cell? ⟨g, k, none⟩ = some u /\ w.frozen? ⟨g, k, none⟩ = false :=
 ⟨cur[k], row_cell h (List.getElem?_eq_getElem hk), row_frozen h k⟩
theorem tpost_frame {w wr w' : World} {b base : Nat} {ps l1 l3 : Value} {g n cap n1 n3 : Nat} {us ws : List Value} {m : ByteArray} (hz : ¬ (n = 0 /\ cap = 0)) (hk : w.grownBy wr (some g)) (h : TPost wr b base ps l1 l3 (.slice (some ⟨g, 0, none⟩) n cap) n1 n3 us ws m w') : TPost w b base ps l1 l3 (.slice (some ⟨g, 0, none⟩) n cap) n1 n3 us ws m w' := by
 obtain ⟨a1, a3, v1, v2, v3, s, f1, f2, f3, z, o1, o2, o3, hf⟩ := h
 refine ⟨a1, a3, v1, v2, v3, s, f1, f2, f3, Nat.le_trans hk.size z, o1.trans hk.os, o2.trans hk.tape, o3.trans hk.output, ?_⟩
 intro k hl hb hr h1 h3
 have e : rowOf (.slice (some ⟨g, 0, none⟩) n cap) = some g := by
  show (if n = 0 /\ cap = 0 then none else some g) = some g
  rw [if_neg hz]
 rw [hf k (Nat.lt_of_lt_of_le hl hk.size) hb hr h1 h3]
 rw [e] at hr
 exact hk.block k hl (Ne.symm hr)
theorem takes_row (b base : Nat) (ps l1 l3 : Value) (g n cap : Nat) (cur us ws : List Value) (w : World) (hlw : LwAt w b ps l1 l3) (o1 : w.ownsRow base 28 1 l1 us.length us) (o3 : w.ownsRow base 28 1 l3 ws.length ws)
  (sep : ∀ k, l1.ownBlock = some k -> l3.ownBlock ≠ some k) (hb : b < base) (hbase : base <= w.heap.size) (hg : StrRow w g cur) (hc : cur.length = cap) (hn : n <= cap) (hnb : n <= 549755813888) (hz : ¬ (n = 0 /\ cap = 0))
  (h1 : (us.length + 1) * 24 <= 140737488355328) (h3 : (ws.length + 3) * 24 <= 140737488355328) (hm : us.length <= 140737488355328) :
  Calls Tryz.prog 78 #[.pointer (some ⟨b, 0, none⟩), .slice (some ⟨g, 0, none⟩) n cap] w fun e w' => e = .returned (.tuple #[]) /\ TPost w b base ps l1 l3 (.slice (some ⟨g, 0, none⟩) n cap) us.length ws.length us ws (strokesS us.length) w' := by
 have hst := fun w => strokes_any us.length w hm
 have a1 : w.cell? ⟨b, 1, none⟩ = some l1 := row_cell hlw rfl
 have hl1 : (l1 = .slice none 0 0 /\ us.length = 0) \/ ∃ g cap, l1 = .slice (some ⟨g, 0, none⟩) us.length cap := by
  rcases o1.2 with h | ⟨g, cap, cur, hv, -⟩
  ·exact Or.inl h
  ·exact Or.inr ⟨g, cap, hv⟩
 have hgb : ∀ k c2, w.heap[k]? = some (.cells (c2 : List Value).toArray 28 (0, 0)) -> some g ≠ some k := by
  intro k c2 hk e
  injection e with e; subst e
  have := row_type hg hk
  revert this; decide
 have HT : Hid (∀ wr cur', StrRow wr g cur' -> cur'.length = cap -> (∀ i, i < n -> cur'[i]? = some (.string (strokesS us.length))) -> w.grownBy wr (some g) -> St wr b base ps l1 l3 (.slice (some ⟨g, 0, none⟩) n cap) us.length ws.length us ws (strokesS us.length)) := by
  intro wr cur' q1 q2 q3 q4
  refine ⟨lw_kept hlw q4 ?_, owns_kept o1 q4 ?_, owns_kept o3 q4 ?_, Or.inr ⟨g, n, cap, cur', rfl, q1, q2, hn, hnb, q3⟩, sep, hb, Nat.le_trans hbase q4.size⟩
  ·intro e; injection e with e; subst e
   have := row_type hg hlw
   revert this; decide
  ·intro k hk; obtain ⟨c2, hd⟩ := owns_type o1 hk; exact hgb k c2 hd
  ·intro k hk; obtain ⟨c2, hd⟩ := owns_type o3 hk; exact hgb k c2 hd
 have HG : Hid (StrRow w g cur) := hg
 have HLW : Hid (LwAt w b ps l1 l3) := hlw
 have H13 : Hid ((us.length + 1) * 24 <= 140737488355328 /\ (ws.length + 3) * 24 <= 140737488355328) := ⟨h1, h3⟩
 have HZ : Hid (¬ (n = 0 /\ cap = 0)) := hz
 clear hgb o1 o3 sep hb hbase hg hlw h1 h3 hm hz
 generalize us.length = n1 at *
 generalize ws.length = n3 at *
 generalize strokesS n1 = m at *
 rcases hl1 with ⟨rfl, rfl⟩ | ⟨g1, cap1, rfl⟩
 all_goals
  go_enter Tryz.func78, Tryz.ntmps78
  go_wp2_with (go_at_call 81; refine (hst _).mono ?_; rintro e w' ⟨rfl, hw'⟩; subst w')
  go_loopw [5] (fun i wr => ∃ (k : Nat) (cur' : List Value), k <= n /\ i = .int .i64 k /\ StrRow wr g cur' /\ cur'.length = cap /\ (∀ i, i < k -> cur'[i]? = some (.string m)) /\ w.grownBy wr (some g)) (fun i _ => n - (intOf i).toNat)
  case atStart => exact ⟨0, cur, Nat.zero_le _, rfl, HG.out, hc, fun i hi => absurd hi (Nat.not_lt_zero _), kept_refl _ _⟩
  case round =>
   obtain ⟨k, cur', hk, rfl, hr, hcl, hfu, hkp⟩ := hrel
   by_cases hlt : k < n
   ·obtain ⟨u, hu, hfz⟩ := row_cur hr (k := k) (by omega)
    have HR : Hid (StrRow (wr.setCell ⟨g, k, none⟩ (.string m)) g (cur'.set k (.string m)) /\ (cur'.set k (.string m)).length = cap /\ (∀ i, i < k + 1 -> (cur'.set k (.string m))[i]? = some (.string m)) /\ w.grownBy (wr.setCell ⟨g, k, none⟩ (.string m)) (some g)) := by
     refine ⟨row_set hr k _, by rw [List.length_set]; exact hcl, ?_, kept_set hkp k _⟩
     intro i hi
     by_cases e : k = i
     ·subst e; rw [List.getElem?_set_self (by omega)]
     ·rw [List.getElem?_set_ne e]; exact hfu i (by omega)
    clear hr hfu hkp
    go_wp2
    go_roundw
    case rel => exact ⟨k + 1, _, by omega, by go_num, HR.out.1, HR.out.2.1, HR.out.2.2.1, HR.out.2.2.2⟩
    case measure => simp [intOf]; omega
   ·obtain rfl : k = n := by omega
    have hs := HT.out wr cur' hr hcl hfu hkp
    obtain ⟨x1, y1, q1, w1, x2, y2, q2, w2, x3, y3, q3, w3, g4, c4, w4, g5, c5, w5, g6, c6, w6, g7, c7, w7, r1, r2, r3, r4, r5, r6, r7, lw3, lw4, lw5, lw6, lw7, hp⟩ := takes_tail hs H13.out.1 H13.out.2
    have HP := show Hid _ from tpost_frame HZ.out hkp hp
    have a3 := row_cell lw3 (j := 1) rfl
    have a4 := row_cell lw4 (j := 1) rfl
    have b4 := row_cell lw4 (j := 2) rfl
    have a5 := row_cell lw5 (j := 2) rfl
    have a6 := row_cell lw6 (j := 2) rfl
    have a7 := row_cell lw7 (j := 2) rfl
    have z4 := row_frozen lw4 1
    have z5 := row_frozen lw5 2
    have z6 := row_frozen lw6 2
    have z7 := row_frozen lw7 2
    clear hp hs lw3 lw4 lw5 lw6 lw7 hr hfu hkp HT
    go_wp2_with (first | (at_builtin; refine wpList_app_run rfl (.tmp 25) (.tmp 27) 28 rfl _ _ _ rfl rfl r1 ?_) | (at_builtin; refine wpList_app_run rfl (.tmp 29) (.tmp 32) 28 rfl _ _ _ rfl rfl r2 ?_) | (at_builtin; refine wpList_app_run rfl (.tmp 34) (.tmp 38) 28 rfl _ _ _ rfl rfl r3 ?_) | (at_builtin; refine wpList_app_run rfl (.tmp 44) (.tmp 46) 59 rfl _ _ _ rfl rfl r4 ?_) | (at_builtin; refine wpList_app_run rfl (.tmp 54) (.tmp 56) 59 rfl _ _ _ rfl rfl r5 ?_) | (at_builtin; refine wpList_app_run rfl (.tmp 64) (.tmp 66) 59 rfl _ _ _ rfl rfl r6 ?_) | (at_builtin; refine wpList_app_run rfl (.tmp 74) (.tmp 76) 59 rfl _ _ _ rfl rfl r7 ?_))
    go_end0
    exact ⟨rfl, HP.out⟩
theorem takes_none (b base : Nat) (ps l1 l3 l : Value) (us ws : List Value) (w : World) (hl : l = .slice none 0 0 \/ ∃ bb off, l = .slice (some ⟨bb, off, none⟩) 0 0)
  (s : St w b base ps l1 l3 l us.length ws.length us ws (strokesS us.length)) (h1 : (us.length + 1) * 24 <= 140737488355328) (h3 : (ws.length + 3) * 24 <= 140737488355328) (hm : us.length <= 140737488355328) :
  Calls Tryz.prog 78 #[.pointer (some ⟨b, 0, none⟩), l] w fun e w' => e = .returned (.tuple #[]) /\ TPost w b base ps l1 l3 l us.length ws.length us ws (strokesS us.length) w' := by
 have hst := fun w => strokes_any us.length w hm
 obtain ⟨x1, y1, q1, w1, x2, y2, q2, w2, x3, y3, q3, w3, g4, c4, w4, g5, c5, w5, g6, c6, w6, g7, c7, w7, r1, r2, r3, r4, r5, r6, r7, lw3, lw4, lw5, lw6, lw7, hp⟩ := takes_tail s h1 h3
 have HP : Hid (TPost w b base ps l1 l3 l us.length ws.length us ws (strokesS us.length) (w7.setCell ⟨b, 2, none⟩ (.slice (some ⟨g7, 0, none⟩) (ws.length + 1 + 1 + 1) c7))) := hp
 clear hp h1 h3 hm
 have a1 : w.cell? ⟨b, 1, none⟩ = some l1 := row_cell s.lw rfl
 have a3 : w3.cell? ⟨b, 1, none⟩ = some l1 := row_cell lw3 rfl
 have a4 : w4.cell? ⟨b, 1, none⟩ = some l1 := row_cell lw4 rfl
 have b4 : w4.cell? ⟨b, 2, none⟩ = some l3 := row_cell lw4 rfl
 have a5 : w5.cell? ⟨b, 2, none⟩ = some l3 := row_cell lw5 rfl
 have a6 : w6.cell? ⟨b, 2, none⟩ = some (.slice (some ⟨g5, 0, none⟩) (ws.length + 1) c5) := row_cell lw6 rfl
 have a7 : w7.cell? ⟨b, 2, none⟩ = some (.slice (some ⟨g6, 0, none⟩) (ws.length + 1 + 1) c6) := row_cell lw7 rfl
 have z4 : w4.frozen? ⟨b, 1, none⟩ = false := row_frozen lw4 _
 have z5 : w5.frozen? ⟨b, 2, none⟩ = false := row_frozen lw5 _
 have z6 : w6.frozen? ⟨b, 2, none⟩ = false := row_frozen lw6 _
 have z7 : w7.frozen? ⟨b, 2, none⟩ = false := row_frozen lw7 _
 have hl1 : (l1 = .slice none 0 0 /\ us.length = 0) \/ ∃ g cap, l1 = .slice (some ⟨g, 0, none⟩) us.length cap := by
  rcases s.o1.2 with h | ⟨g, cap, cur, hv, -⟩
  ·exact Or.inl h
  ·exact Or.inr ⟨g, cap, hv⟩
 clear s lw3 lw4 lw5 lw6 lw7
 generalize us.length = n1 at *
 generalize ws.length = n3 at *
 generalize strokesS n1 = m at *
 rcases hl1 with ⟨rfl, rfl⟩ | ⟨g1, cap1, rfl⟩
 all_goals
  rcases hl with rfl | ⟨bb, off, rfl⟩
  all_goals
   go_enter Tryz.func78, Tryz.ntmps78
   go_wp2_with (go_at_call 81; refine (hst _).mono ?_; rintro e w' ⟨rfl, rfl⟩)
   refine wp_loop_rounds 1 ?_
   rw [rounds_succ]
   go_wp2_with (first | (at_builtin; refine wpList_app_run rfl (.tmp 25) (.tmp 27) 28 rfl _ _ _ rfl rfl r1 ?_) | (at_builtin; refine wpList_app_run rfl (.tmp 29) (.tmp 32) 28 rfl _ _ _ rfl rfl r2 ?_) | (at_builtin; refine wpList_app_run rfl (.tmp 34) (.tmp 38) 28 rfl _ _ _ rfl rfl r3 ?_) | (at_builtin; refine wpList_app_run rfl (.tmp 44) (.tmp 46) 59 rfl _ _ _ rfl rfl r4 ?_) | (at_builtin; refine wpList_app_run rfl (.tmp 54) (.tmp 56) 59 rfl _ _ _ rfl rfl r5 ?_) | (at_builtin; refine wpList_app_run rfl (.tmp 64) (.tmp 66) 59 rfl _ _ _ rfl rfl r6 ?_) | (at_builtin; refine wpList_app_run rfl (.tmp 74) (.tmp 76) 59 rfl _ _ _ rfl rfl r7 ?_))
   go_end0
   exact ⟨rfl, HP.out⟩
def idxI (xs : List ByteArray) (s : ByteArray) : Int := match xs.findIdx? (fun x => x.toList == s.toList) with | some i => i | none => -1
theorem index_any (v : Value) (xs : List ByteArray) (s : ByteArray) (w : World) (h : StrsAt w v xs) (hl : xs.length <= maxLen) :
  Calls Tryz.prog 170 #[v, .string s] w fun e w' => e = .returned (.int .i64 (idxI xs s)) /\ w' = w := by
 unfold maxLen at hl
 rcases h with ⟨rfl, rfl⟩ | ⟨b, off, cap, rfl, hc⟩
 ·go_enter Tryz.func170, Tryz.ntmps170
  go_wp2
  refine wp_loop_rounds 1 ?_
  rw [rounds_succ]
  go_wp2
  go_ret
  exact ⟨rfl, rfl⟩
 ·have HX : Hid (∀ k : Nat, (∀ (j : Nat) (y : ByteArray), j < k -> xs[j]? = some y -> (y.toList == s.toList) = false) -> ∀ x, xs[k]? = some x -> (x.toList == s.toList) = true -> idxI xs s = k) := by
   intro k hno x hx hq
   have hk := (List.getElem?_eq_some_iff.1 hx).1
   have hxk := (List.getElem?_eq_some_iff.1 hx).2
   unfold idxI
   rw [(List.findIdx?_eq_some_iff_getElem (p := fun x => x.toList == s.toList)).2 ⟨hk, by rw [hxk]; exact hq, fun j hj => by rw [hno j xs[j] hj (List.getElem?_eq_getElem (by omega))]; simp⟩]
  have HN : Hid ((∀ (j : Nat) (y : ByteArray), j < xs.length -> xs[j]? = some y -> (y.toList == s.toList) = false) -> idxI xs s = -1) := by
   intro hno
   unfold idxI
   rw [List.findIdx?_eq_none_iff.2 fun x hx => by
    obtain ⟨j, hj⟩ := List.mem_iff_getElem?.1 hx
    exact hno j x (List.getElem?_eq_some_iff.1 hj).1 hj]
  go_enter Tryz.func170, Tryz.ntmps170
  go_wp2
  go_loop [5] (fun i => ∃ k : Nat, k <= xs.length /\ i = .int .i64 k /\ ∀ (j : Nat) (y : ByteArray), j < k -> xs[j]? = some y -> (y.toList == s.toList) = false) (fun i => xs.length - (intOf i).toNat)
  case atStart => exact ⟨0, Nat.zero_le _, rfl, fun j y hj => absurd hj (Nat.not_lt_zero j)⟩
  case round =>
   obtain ⟨k, hk, rfl, hh⟩ := hrel
   have HH : Hid (∀ (j : Nat) (y : ByteArray), j < k -> xs[j]? = some y -> (y.toList == s.toList) = false) := hh
   clear hh
   by_cases hlt : k < xs.length
   ·obtain ⟨x, hx⟩ : ∃ x, xs[k]? = some x := ⟨_, List.getElem?_eq_getElem hlt⟩
    have hck := hc k x hx
    clear hc
    by_cases hq : (x.toList == s.toList) = true
    ·go_wp2
     go_ret
     exact ⟨ret_int (HX.out k HH.out x hx hq).symm, rfl⟩
    ·have hq : (x.toList == s.toList) = false := by simpa using hq
     have HH2 : Hid (∀ (j : Nat) (y : ByteArray), j < k + 1 -> xs[j]? = some y -> (y.toList == s.toList) = false) := by
      intro j y hj hy
      rcases Nat.lt_or_ge j k with h | h
      ·exact HH.out j y h hy
      ·obtain rfl : j = k := by omega
       rw [hx] at hy; injection hy with hy; subst hy; exact hq
     clear hx
     go_wp2
     go_round
     case rel => exact ⟨k + 1, by omega, by go_num, HH2.out⟩
     case measure => simp [intOf]; omega
   ·obtain rfl : k = xs.length := by omega
    clear hc
    go_wp2
    go_ret
    exact ⟨ret_int (HN.out HH.out).symm, rfl⟩
end Go.Proofs.YtalmoiogbdahcaaGreat
