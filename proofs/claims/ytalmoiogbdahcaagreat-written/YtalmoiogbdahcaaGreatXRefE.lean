import Derived.Test.YtalmoiogbdahcaaGreatXRefC
import Derived.Test.YtalmoiogbdahcaaGreatXLawB
import Derived.OwnWalk

/- Texts in order, with one more or without it, as the document's list keeps them. -/
namespace Go.Proofs.YtalmoiogbdahcaaGreat
open Go.RowKit

theorem info_str : ∃ i, Tryz.prog.info? 9 = some i ∧ i.zero = some (.string { data := #[] }) ∧ i.size = 1 ∧ i.bytes = 16 := by
  obtain ⟨i, hi, hzz⟩ := Option.map_eq_some_iff.1 Tryz.infoStr
  simp only [Prod.mk.injEq] at hzz
  exact ⟨i, hi, hzz.1, hzz.2.1, hzz.2.2⟩

theorem grown_alloc {w w' : World} {o : Obj} {row : Option Nat} (h : (w.alloc o).grownBy w' row) : w.grownBy w' row :=
  ⟨h.os, h.tape, h.output, by have := h.size; simp at this; omega, fun k hk hne => by rw [h.block k (by simp; omega) hne]; exact Below.heap_alloc _ _ _ hk⟩

/-- an append whose run is known. -/
theorem wpList_app_run {P : Program} {w w' : World} {ops : Array Oper} {rest : List Oper} {o : Oper} {a : Act} {Q : Exit → Act → World → Prop} (hgd : o.guard = none) (s x : Operand) (t : TypeId)
    (ho : o.op = .call { callee := .builtin .append, args := #[s, x], argTypes := #[t, t] }) (v u v' : Value) (hs : a.eval s = v) (hx : a.eval x = u)
    (hr : (Builtin.append_ #[t, t] o.type #[v, u]).run P w = .ok v' w') (h : wpList P ops Q rest (a.put o.dst v') w') : wpList P ops Q (o :: rest) a w :=
  wpList_plain hgd fun _ hK => by
    unfold Oper.wp execOp
    simp only [ho, resolve, invoke, builtin, Sem.run_bind, Sem.run_pure, Result.andThen_ok, List.map_toArray, List.map_cons, List.map_nil, hs, hx, hr]
    exact hK _ _ h

/-- one text more, on a row of the call's own. -/
theorem app_str (w : World) (base : Nat) (v : Value) (n : Nat) (xs : List ByteArray) (hn : xs.length = n) (x : ByteArray) (hown : w.ownsRow base 9 1 v n (strV xs)) (hb : base ≤ w.heap.size) (hl : n ≤ 1099511627776) :
    ∃ v' w', (Builtin.append_ #[28, 28] 28 #[v, .slice (some ⟨w.heap.size, 0, none⟩) 1 1]).run Tryz.prog (w.alloc (.cells #[.string x] 9)) = .ok v' w' ∧
      w'.ownsRow base 9 1 v' (n + 1) (strV (xs ++ [x])) ∧ w.grownBy w' v.ownBlock ∧ ∃ g c, v' = .slice (some ⟨g, 0, none⟩) (n + 1) c := by
  obtain ⟨i, hi, hz, hs, hby⟩ := info_str
  obtain ⟨v', w', hr, h2, h3, h4⟩ := run_append_own (P := Tryz.prog) (w.alloc (.cells #[.string x] 9)) base 28 28 9 i (.string { data := #[] }) 1 16 Tryz.underlying28 hi hz hs hby rfl (by decide) v n (strV xs) (hown.alloc _) ⟨w.heap.size, 0, none⟩ 1 1 [.string x] rfl
    (by intro j u hj
        match j, hj with
        | 0, hj => simp at hj; subst hj; simp [Addr.add])
    (by intro u hu; simp at hu; subst hu; rfl) (by unfold maxLen; omega) (by omega) (by simp; omega)
  have h2' : w'.ownsRow base 9 1 v' (n + 1) (strV (xs ++ [x])) := by
    rw [strV_append]; exact h2
  refine ⟨v', w', hr, h2', grown_alloc h3, ?_⟩
  rcases h2.2 with ⟨hv, h0⟩ | ⟨g, cap, cur, hv, -⟩
  · omega
  · exact ⟨g, cap, hv⟩

def gtB (x s : ByteArray) : Bool := !(Op.bytesLess x.toList s.toList || x.toList == s.toList)
def neB (x s : ByteArray) : Bool := !(x.toList == s.toList)
/-- one round: whether the new text is still to come; what was gathered. -/
def withStep (s : ByteArray) (q : Bool × List ByteArray) (x : ByteArray) : Bool × List ByteArray :=
  ((q.1 && !gtB x s), (if q.1 && gtB x s then q.2 ++ [s] else q.2) ++ (if neB x s then [x] else []))
def withL (xs : List ByteArray) (s : ByteArray) (there : Bool) : List ByteArray :=
  (xs.foldl (withStep s) (there, [])).2 ++ (if (xs.foldl (withStep s) (there, [])).1 then [s] else [])
theorem withStep_len (s : ByteArray) (xs : List ByteArray) : ∀ q, (xs.foldl (withStep s) q).2.length ≤ q.2.length + 2 * xs.length := by
  induction xs with
  | nil => intro q; simp
  | cons x xs ih =>
    intro q
    rw [List.foldl_cons]
    refine Nat.le_trans (ih _) ?_
    have : (withStep s q x).2.length ≤ q.2.length + 2 := by
      unfold withStep; dsimp only
      rw [List.length_append]
      split <;> split <;> simp <;> omega
    simp only [List.length_cons]; omega

set_option maxRecDepth 100000 in
set_option maxHeartbeats 2000000 in
theorem with_any (v : Value) (xs : List ByteArray) (s : ByteArray) (there : Bool) (w : World) (h : StrsAt w v xs) (hl : xs.length ≤ 1000) :
    Calls Tryz.prog 74 #[v, .string s, .bool there] w fun e w' => ∃ v', e = .returned v' ∧ w'.ownsRow w.heap.size 9 1 v' (withL xs s there).length (strV (withL xs s there)) ∧ Below w.heap.size w w' := by
  rcases h with ⟨rfl, rfl⟩ | ⟨b, off, cap, rfl, hc⟩
  · cases there
    · go_enter Tryz.func74, Tryz.ntmps74
      go_wp2
      refine wp_loop_rounds 1 ?_
      rw [rounds_succ]
      go_wp2
      go_ret
      exact ⟨_, rfl, World.ownsRow_nil _ _ _ _, Below.refl _ _⟩
    · go_enter Tryz.func74, Tryz.ntmps74
      go_wp2
      go_loopw [2, 7, 8] (fun t ov i wr => ∃ (o : Value), o = ov ∧ i = .int .i64 0 ∧ t = .bool true ∧ wr.ownsRow w.heap.size 9 1 o 0 (strV []) ∧ Below w.heap.size w wr) (fun _ _ _ _ => 0)
      case atStart => exact ⟨_, rfl, rfl, rfl, World.ownsRow_nil _ _ _ _, Below.refl _ _⟩
      case round =>
        obtain ⟨o, rfl, rfl, rfl, hown, hb⟩ := hrel
        obtain ⟨v1, w1, hr1, ho1, hg1, -⟩ := app_str wr w.heap.size o 0 [] rfl s hown hb.size (by omega)
        have HR : Hid (w1.ownsRow w.heap.size 9 1 v1 [s].length (strV [s]) ∧ Below w.heap.size w w1) :=
          ⟨ho1, hb.grown hg1 hb.size (fun j hj => (hown.lt j hj).1)⟩
        clear hown hb ho1 hg1
        go_wp2_with (at_builtin; refine wpList_app_run rfl (.tmp 42) (.tmp 44) 28 rfl _ _ _ rfl rfl hr1 ?_)
        go_ret
        exact ⟨_, rfl, HR.out.1, HR.out.2⟩
  · obtain ⟨n, hn⟩ : ∃ n, xs.length = n := ⟨_, rfl⟩
    have HX : Hid (xs.length = n) := hn
    rw [hn] at hl ⊢
    clear hn
    go_enter Tryz.func74, Tryz.ntmps74
    go_wp2
    go_loopw [2, 7, 8] (fun t ov i wr => ∃ (k : Nat) (o : Value), o = ov ∧ k ≤ n ∧ i = .int .i64 k ∧ t = .bool ((xs.take k).foldl (withStep s) (there, [])).1 ∧ wr.ownsRow w.heap.size 9 1 o ((xs.take k).foldl (withStep s) (there, [])).2.length (strV ((xs.take k).foldl (withStep s) (there, [])).2) ∧ Below w.heap.size w wr) (fun _ _ i _ => n - (intOf i).toNat)
    case atStart => exact ⟨0, _, rfl, Nat.zero_le _, rfl, rfl, World.ownsRow_nil _ _ _ _, Below.refl _ _⟩
    case round =>
      obtain ⟨k, o, rfl, hk, rfl, rfl, hown, hb⟩ := hrel
      by_cases hlt : k < n
      · have hkx : k < xs.length := by have := HX.out; omega
        obtain ⟨x, hx⟩ : ∃ x, xs[k] = x := ⟨_, rfl⟩
        have hck0 := hc k x (by rw [List.getElem?_eq_getElem hkx, hx])
        have hbl0 : b < w.heap.size := cell_lt hck0
        have hck : wr.cell? ⟨b, off + k, none⟩ = some (.string x) := by rw [← hck0]; exact hb.cell hbl0
        have HS : Hid ((xs.take (k + 1)).foldl (withStep s) (there, []) = withStep s ((xs.take k).foldl (withStep s) (there, [])) x) := by
          show _ = _
          rw [List.take_succ_eq_append_getElem hkx, List.foldl_append, hx]; rfl
        have HLen : Hid (((xs.take k).foldl (withStep s) (there, [])).2.length ≤ 2000) := by
          have := withStep_len s (xs.take k) (there, [])
          rw [List.length_take] at this
          show _ ≤ _
          simp at this; omega
        generalize (xs.take k).foldl (withStep s) (there, []) = q at *
        obtain ⟨t, ys⟩ := q
        dsimp only at hown HLen ⊢
        clear hc hx hck0 hkx
        cases heq : (x.toList == s.toList)
        · cases hbl : Op.bytesLess x.toList s.toList
          · cases t
            · have HQ : Hid ((xs.take (k + 1)).foldl (withStep s) (there, []) = (false, ys ++ [x])) := by show _ = _; rw [HS.out]; simp [withStep, gtB, neB, hbl, heq]
              obtain ⟨v1, w1, hr1, ho1, hg1, -⟩ := app_str wr w.heap.size o ys.length ys rfl x hown hb.size (by have := HLen.out; omega)
              have HR : Hid (w1.ownsRow w.heap.size 9 1 v1 ((xs.take (k + 1)).foldl (withStep s) (there, [])).2.length (strV ((xs.take (k + 1)).foldl (withStep s) (there, [])).2) ∧ Below w.heap.size w w1) := by
                rw [HQ.out]; refine ⟨by rw [List.length_append]; exact ho1, hb.grown hg1 hb.size (fun j hj => (hown.lt j hj).1)⟩
              clear hown hb HS ho1 hg1
              go_wp2_with (at_builtin; refine wpList_app_run rfl (.tmp 34) (.tmp 39) 28 rfl _ _ _ rfl rfl hr1 ?_)
              go_roundw
              case rel => exact ⟨k + 1, _, rfl, by omega, by go_num, by rw [HQ.out], HR.out.1, HR.out.2⟩
              case measure => simp [intOf]; omega
              
            · have HQ : Hid ((xs.take (k + 1)).foldl (withStep s) (there, []) = (false, ys ++ [s] ++ [x])) := by show _ = _; rw [HS.out]; simp [withStep, gtB, neB, hbl, heq]
              obtain ⟨v1, w1, hr1, ho1, hg1, -⟩ := app_str wr w.heap.size o ys.length ys rfl s hown hb.size (by have := HLen.out; omega)
              have hb1 := hb.grown hg1 hb.size (fun j hj => (hown.lt j hj).1)
              obtain ⟨v2, w2, hr2, ho2, hg2, -⟩ := app_str w1 w.heap.size v1 (ys.length + 1) (ys ++ [s]) (by simp) x ho1 hb1.size (by have := HLen.out; omega)
              have hck1 : w1.cell? ⟨b, off + k, none⟩ = some (.string x) := by rw [← hck]; exact (hb1.cell hbl0).trans (hb.cell hbl0).symm
              have HR : Hid (w2.ownsRow w.heap.size 9 1 v2 ((xs.take (k + 1)).foldl (withStep s) (there, [])).2.length (strV ((xs.take (k + 1)).foldl (withStep s) (there, [])).2) ∧ Below w.heap.size w w2) := by
                rw [HQ.out]; refine ⟨by rw [List.length_append, List.length_append]; exact ho2, hb1.grown hg2 hb1.size (fun j hj => (ho1.lt j hj).1)⟩
              clear hown hb HS ho1 hg1 hb1 ho2 hg2
              go_wp2_with (first | (at_builtin; refine wpList_app_run rfl (.tmp 24) (.tmp 26) 28 rfl _ _ _ rfl rfl hr1 ?_) | (at_builtin; refine wpList_app_run rfl (.tmp 34) (.tmp 39) 28 rfl _ _ _ rfl rfl hr2 ?_))
              go_roundw
              case rel => exact ⟨k + 1, _, rfl, by omega, by go_num, by rw [HQ.out], HR.out.1, HR.out.2⟩
              case measure => simp [intOf]; omega
              
          · cases t
            · have HQ : Hid ((xs.take (k + 1)).foldl (withStep s) (there, []) = (false, ys ++ [x])) := by show _ = _; rw [HS.out]; simp [withStep, gtB, neB, hbl, heq]
              obtain ⟨v1, w1, hr1, ho1, hg1, -⟩ := app_str wr w.heap.size o ys.length ys rfl x hown hb.size (by have := HLen.out; omega)
              have HR : Hid (w1.ownsRow w.heap.size 9 1 v1 ((xs.take (k + 1)).foldl (withStep s) (there, [])).2.length (strV ((xs.take (k + 1)).foldl (withStep s) (there, [])).2) ∧ Below w.heap.size w w1) := by
                rw [HQ.out]; refine ⟨by rw [List.length_append]; exact ho1, hb.grown hg1 hb.size (fun j hj => (hown.lt j hj).1)⟩
              clear hown hb HS ho1 hg1
              go_wp2_with (at_builtin; refine wpList_app_run rfl (.tmp 34) (.tmp 39) 28 rfl _ _ _ rfl rfl hr1 ?_)
              go_roundw
              case rel => exact ⟨k + 1, _, rfl, by omega, by go_num, by rw [HQ.out], HR.out.1, HR.out.2⟩
              case measure => simp [intOf]; omega
              
            · have HQ : Hid ((xs.take (k + 1)).foldl (withStep s) (there, []) = (true, ys ++ [x])) := by show _ = _; rw [HS.out]; simp [withStep, gtB, neB, hbl, heq]
              obtain ⟨v1, w1, hr1, ho1, hg1, -⟩ := app_str wr w.heap.size o ys.length ys rfl x hown hb.size (by have := HLen.out; omega)
              have HR : Hid (w1.ownsRow w.heap.size 9 1 v1 ((xs.take (k + 1)).foldl (withStep s) (there, [])).2.length (strV ((xs.take (k + 1)).foldl (withStep s) (there, [])).2) ∧ Below w.heap.size w w1) := by
                rw [HQ.out]; refine ⟨by rw [List.length_append]; exact ho1, hb.grown hg1 hb.size (fun j hj => (hown.lt j hj).1)⟩
              clear hown hb HS ho1 hg1
              go_wp2_with (at_builtin; refine wpList_app_run rfl (.tmp 34) (.tmp 39) 28 rfl _ _ _ rfl rfl hr1 ?_)
              go_roundw
              case rel => exact ⟨k + 1, _, rfl, by omega, by go_num, by rw [HQ.out], HR.out.1, HR.out.2⟩
              case measure => simp [intOf]; omega
              
        · cases hbl : Op.bytesLess x.toList s.toList
          all_goals
            cases t
            · have HQ : Hid ((xs.take (k + 1)).foldl (withStep s) (there, []) = (false, ys)) := by show _ = _; rw [HS.out]; simp [withStep, gtB, neB, hbl, heq]
              have HR : Hid (wr.ownsRow w.heap.size 9 1 o ((xs.take (k + 1)).foldl (withStep s) (there, [])).2.length (strV ((xs.take (k + 1)).foldl (withStep s) (there, [])).2) ∧ Below w.heap.size w wr) := by rw [HQ.out]; exact ⟨hown, hb⟩
              clear hown hb HS
              go_wp2
              go_roundw
              case rel => exact ⟨k + 1, _, rfl, by omega, by go_num, by rw [HQ.out], HR.out.1, HR.out.2⟩
              case measure => simp [intOf]; omega
              
            · have HQ : Hid ((xs.take (k + 1)).foldl (withStep s) (there, []) = (true, ys)) := by show _ = _; rw [HS.out]; simp [withStep, gtB, neB, hbl, heq]
              have HR : Hid (wr.ownsRow w.heap.size 9 1 o ((xs.take (k + 1)).foldl (withStep s) (there, [])).2.length (strV ((xs.take (k + 1)).foldl (withStep s) (there, [])).2) ∧ Below w.heap.size w wr) := by rw [HQ.out]; exact ⟨hown, hb⟩
              clear hown hb HS
              go_wp2
              go_roundw
              case rel => exact ⟨k + 1, _, rfl, by omega, by go_num, by rw [HQ.out], HR.out.1, HR.out.2⟩
              case measure => simp [intOf]; omega
              
      · obtain rfl : k = n := by omega
        have hw : withL xs s there = ((xs.take k).foldl (withStep s) (there, [])).2 ++ (if ((xs.take k).foldl (withStep s) (there, [])).1 then [s] else []) := by
          rw [List.take_of_length_le (by have := HX.out; omega)]; rfl
        have HLen : Hid (((xs.take k).foldl (withStep s) (there, [])).2.length ≤ 2000) := by
          have := withStep_len s (xs.take k) (there, [])
          rw [List.length_take] at this
          show _ ≤ _
          simp at this; omega
        generalize (xs.take k).foldl (withStep s) (there, []) = q at *
        obtain ⟨t, ys⟩ := q
        dsimp only at hown HLen hw ⊢
        clear hc
        cases t
        · have HW : Hid (withL xs s there = ys) := by show _ = _; rw [hw]; simp
          clear hw
          go_wp2
          go_ret
          exact ⟨_, rfl, by rw [HW.out]; exact hown, hb⟩
        · have HW : Hid (withL xs s there = ys ++ [s]) := by show _ = _; rw [hw]; simp
          clear hw
          obtain ⟨v1, w1, hr1, ho1, hg1, -⟩ := app_str wr w.heap.size o ys.length ys rfl s hown hb.size (by have := HLen.out; omega)
          have HR : Hid (w1.ownsRow w.heap.size 9 1 v1 (ys ++ [s]).length (strV (ys ++ [s])) ∧ Below w.heap.size w w1) :=
            ⟨by rw [List.length_append]; exact ho1, hb.grown hg1 hb.size (fun j hj => (hown.lt j hj).1)⟩
          clear hown hb ho1 hg1
          go_wp2_with (at_builtin; refine wpList_app_run rfl (.tmp 42) (.tmp 44) 28 rfl _ _ _ rfl rfl hr1 ?_)
          go_ret
          exact ⟨_, rfl, by rw [HW.out]; exact HR.out.1, HR.out.2⟩

end Go.Proofs.YtalmoiogbdahcaaGreat

/- slices.Clone at texts; cmp.Less and isNaN at texts. -/
namespace Go.Proofs.YtalmoiogbdahcaaGreat
open Go.RowKit

theorem clone_run (w : World) (b off cap : Nat) (xs : List ByteArray) (n : Nat) (hn : xs.length = n) (hc : ∀ i x, xs[i]? = some x → w.cell? ⟨b, off + i, none⟩ = some (.string x)) (hl : n ≤ 8796093022208) :
    ∃ g c w', (Builtin.append_ #[28, 28] 28 #[.slice (some ⟨w.heap.size, 0, none⟩) 0 0, .slice (some ⟨b, off, none⟩) n cap]).run Tryz.prog (w.alloc (.cells #[] 9)) = .ok (.slice (some ⟨g, 0, none⟩) n c) w' ∧
      w'.ownsRow w.heap.size 9 1 (.slice (some ⟨g, 0, none⟩) n c) n (strV xs) ∧ Below w.heap.size w w' := by
  obtain ⟨i, hi, hz, hs, hby⟩ := info_str
  obtain ⟨v', w', hr, h2, h3, h4⟩ := run_append_own (P := Tryz.prog) (w.alloc (.cells #[] 9)) w.heap.size 28 28 9 i (.string { data := #[] }) 1 16 Tryz.underlying28 hi hz hs hby rfl (by decide) (.slice (some ⟨w.heap.size, 0, none⟩) 0 0) 0 [] (World.ownsRow_made w #[] 0 (Nat.le_refl _) (Nat.zero_le _) rfl) ⟨b, off, none⟩ n cap (strV xs) (by rw [strV_length, hn, Nat.mul_one])
    (by intro j u hj
        simp only [strV, List.getElem?_map, Option.map_eq_some_iff] at hj
        obtain ⟨x, hx, rfl⟩ := hj
        have h1 := hc j x hx
        rw [show (⟨b, off, none⟩ : Addr).add j = ⟨b, off + j, none⟩ by unfold Addr.add; split; · rename_i h; rw [h]; rfl
                                                                       · rfl]
        rw [← h1]
        exact ((Below.refl w.heap.size w).alloc (Nat.le_refl _) _).cell (p := ⟨b, off + j, none⟩) (cell_lt h1))
    (strV_one _) (by unfold maxLen; omega) (by omega) (by simp)
  rw [Nat.zero_add, List.nil_append] at h2
  rcases h2.2 with ⟨hv, h0⟩ | ⟨g, c, cur, hv, -⟩
  · exfalso
    have := (h4.1 hv).1
    cases this
  · subst hv
    refine ⟨g, c, w', hr, h2, ?_⟩
    exact ((Below.refl _ w).alloc (Nat.le_refl _) _).grown h3 (by simp) (by intro k hk; injection hk with hk; rw [← hk]; exact Nat.le_refl _)

set_option maxRecDepth 100000 in
set_option maxHeartbeats 800000 in
theorem clone_any (b off cap : Nat) (xs : List ByteArray) (w : World) (hc : ∀ i x, xs[i]? = some x → w.cell? ⟨b, off + i, none⟩ = some (.string x)) (hl : xs.length ≤ 8796093022208) :
    Calls Tryz.prog 49 #[.slice (some ⟨b, off, none⟩) xs.length cap] w fun e w' => ∃ g c, e = .returned (.slice (some ⟨g, 0, none⟩) xs.length c) ∧ w'.ownsRow w.heap.size 9 1 (.slice (some ⟨g, 0, none⟩) xs.length c) xs.length (strV xs) ∧ Below w.heap.size w w' := by
  obtain ⟨g, c, w', hr, ho, hb⟩ := clone_run w b off cap xs xs.length rfl hc hl
  have hq := fun (w : World) (a : Option Addr) (n c n' c' : Nat) => Lib.run_eql_slice_nil (P := Tryz.prog) w 28 9 a n c n' c' Tryz.underlying28
  have HO : Hid (w'.ownsRow w.heap.size 9 1 (.slice (some ⟨g, 0, none⟩) xs.length c) xs.length (strV xs) ∧ Below w.heap.size w w') := ⟨ho, hb⟩
  clear ho hb hc
  go_enter Tryz.func49, Tryz.ntmps49
  go_wp2_with (at_builtin; refine wpList_app_run rfl (.tmp 5) (.tmp 6) 28 rfl _ _ _ rfl rfl hr ?_)
  go_ret
  exact ⟨g, c, rfl, HO.out.1, HO.out.2⟩

set_option maxHeartbeats 400000 in
theorem clone_nil (w : World) : Calls Tryz.prog 49 #[.slice none 0 0] w fun e w' => e = .returned (.slice none 0 0) ∧ w' = w := by
  have hq := fun (w : World) (a : Option Addr) (n c n' c' : Nat) => Lib.run_eql_slice_nil (P := Tryz.prog) w 28 9 a n c n' c' Tryz.underlying28
  go_enter Tryz.func49, Tryz.ntmps49
  go_wp2
  go_ret
  exact ⟨rfl, rfl⟩

set_option maxHeartbeats 400000 in
theorem isNaN_any (s : ByteArray) (w : World) : Calls Tryz.prog 194 #[.string s] w fun e w' => e = .returned (.bool false) ∧ w' = w := by
  go_enter Tryz.func194, Tryz.ntmps194
  go_wp2
  go_ret
  exact ⟨ret_bool (by simp), rfl⟩
set_option maxHeartbeats 400000 in
theorem less_any (s t : ByteArray) (w : World) : Calls Tryz.prog 154 #[.string s, .string t] w fun e w' => e = .returned (.bool (Op.bytesLess s.toList t.toList)) ∧ w' = w := by
  go_enter Tryz.func154, Tryz.ntmps154
  go_wp2_with (go_at_call 194; refine (isNaN_any _ _).mono ?_; rintro e w' ⟨rfl, rfl⟩)
  go_ret
  exact ⟨rfl, rfl⟩

end Go.Proofs.YtalmoiogbdahcaaGreat

/- slices.BinarySearch at texts. -/
namespace Go.Proofs.YtalmoiogbdahcaaGreat
open Go.RowKit

def ltB (s t : ByteArray) : Bool := Op.bytesLess s.toList t.toList
/-- the place where a text belongs: those ahead are less, those from there on are not. -/
def Place (xs : List ByteArray) (t : ByteArray) (i : Nat) : Prop := i ≤ xs.length ∧ (∀ k x, k < i → xs[k]? = some x → ltB x t = true) ∧ ∀ k x, i ≤ k → xs[k]? = some x → ltB x t = false
/-- once not less, never less again. -/
def Mono (xs : List ByteArray) (t : ByteArray) : Prop := ∀ (i j : Nat) (x y : ByteArray), i ≤ j → xs[i]? = some x → xs[j]? = some y → ltB y t = true → ltB x t = true

set_option maxHeartbeats 400000 in
theorem sisNaN_any (s : ByteArray) (w : World) : Calls Tryz.prog 155 #[.string s] w fun e w' => e = .returned (.bool false) ∧ w' = w := by
  go_enter Tryz.func155, Tryz.ntmps155
  go_wp2
  go_ret
  exact ⟨ret_bool (by simp), rfl⟩

set_option maxRecDepth 100000 in
set_option maxHeartbeats 800000 in
theorem search_any (b off cap : Nat) (xs : List ByteArray) (t : ByteArray) (w : World) (hc : ∀ i x, xs[i]? = some x → w.cell? ⟨b, off + i, none⟩ = some (.string x)) (hl : xs.length ≤ 1000) (hmo : Mono xs t) :
    Calls Tryz.prog 100 #[.slice (some ⟨b, off, none⟩) xs.length cap, .string t] w fun e w' => (∃ i : Nat, e = .returned (.tuple #[.int .i64 i, .bool (decide (xs[i]? = some t))]) ∧ Place xs t i) ∧ w' = w := by
  obtain ⟨n, hn⟩ : ∃ n, xs.length = n := ⟨_, rfl⟩
  have HX : Hid (xs.length = n) := hn
  rw [hn] at hl ⊢
  clear hn
  go_enter Tryz.func100, Tryz.ntmps100
  go_wp2
  go_loop [7, 8] (fun a z => ∃ i j : Nat, a = .int .i64 i ∧ z = .int .i64 j ∧ i ≤ j ∧ j ≤ n ∧ (∀ k x, k < i → xs[k]? = some x → ltB x t = true) ∧ ∀ k x, j ≤ k → xs[k]? = some x → ltB x t = false) (fun a z => (intOf z - intOf a).toNat)
  case atStart => exact ⟨0, n, rfl, rfl, Nat.zero_le _, Nat.le_refl _, fun k x hk => absurd hk (Nat.not_lt_zero _), fun k x hk hx => by rw [List.getElem?_eq_none (by have := HX.out; omega)] at hx; cases hx⟩
  case round =>
    obtain ⟨i, j, rfl, rfl, hij, hjn, hlo, hhi⟩ := hrel
    have HL : Hid (∀ k x, k < i → xs[k]? = some x → ltB x t = true) := hlo
    have HH : Hid (∀ k x, j ≤ k → xs[k]? = some x → ltB x t = false) := hhi
    clear hlo hhi
    by_cases hlt : i < j
    · have hmid : (i + j) / 2 < xs.length := by have := HX.out; omega
      obtain ⟨x, hx⟩ : ∃ x, xs[(i + j) / 2]? = some x := ⟨_, List.getElem?_eq_getElem hmid⟩
      have hck := hc _ x hx
      have hle := fun w => less_any x t w
      have HXX : Hid (xs[(i + j) / 2]? = some x) := hx
      clear hx hmid hc
      cases hb : ltB x t
      · have hb' : Op.bytesLess x.toList t.toList = false := hb
        rw [hb'] at hle
        go_wp2_with (go_at_call 154; refine (hle _).mono ?_; rintro e w' ⟨rfl, rfl⟩)
        go_round
        case rel =>
          refine ⟨i, (i + j) / 2, rfl, by go_num, by omega, by omega, HL.out, ?_⟩
          intro k y hk hy
          cases e : ltB y t
          · rfl
          · have := hmo _ _ _ _ hk HXX.out hy e
            rw [hb] at this; cases this
        case measure => simp [intOf]; omega
      · have hb' : Op.bytesLess x.toList t.toList = true := hb
        rw [hb'] at hle
        go_wp2_with (go_at_call 154; refine (hle _).mono ?_; rintro e w' ⟨rfl, rfl⟩)
        go_round
        case rel =>
          refine ⟨(i + j) / 2 + 1, j, by go_num, rfl, by omega, by omega, ?_, HH.out⟩
          intro k y hk hy
          exact hmo _ _ _ _ (by omega) hy HXX.out hb
        case measure => simp [intOf]; omega
    · obtain rfl : i = j := by omega
      have HP : Hid (Place xs t i) := ⟨by have := HX.out; omega, HL.out, HH.out⟩
      by_cases hin : i < n
      · obtain ⟨x, hx⟩ : ∃ x, xs[i]? = some x := ⟨_, List.getElem?_eq_getElem (by have := HX.out; omega)⟩
        have hck := hc _ x hx
        have HXX : Hid (xs[i]? = some x) := hx
        clear hx hc
        cases hq : (x.toList == t.toList)
        · have HD : Hid (decide (xs[i]? = some t) = false) := by
            show _ = _
            rw [HXX.out, decide_eq_false_iff_not]
            intro e; injection e with e; subst e
            simp at hq
          go_wp2_with (go_at_call 155; refine (sisNaN_any _ _).mono ?_; rintro e w' ⟨rfl, rfl⟩)
          go_ret2
          exact ⟨⟨i, by rw [HD.out]; rfl, HP.out⟩, rfl⟩
        · have HD : Hid (decide (xs[i]? = some t) = true) := by
            show _ = _
            rw [HXX.out, decide_eq_true_eq]
            rw [byte_eq, decide_eq_true_eq] at hq
            rw [hq]
          go_wp2
          go_ret2
          exact ⟨⟨i, by rw [HD.out]; rfl, HP.out⟩, rfl⟩
      · have HD : Hid (decide (xs[i]? = some t) = false) := by
          show _ = _
          rw [List.getElem?_eq_none (by have := HX.out; omega)]; rfl
        clear hc
        go_wp2
        go_ret2
        exact ⟨⟨i, by rw [HD.out]; rfl, HP.out⟩, rfl⟩

end Go.Proofs.YtalmoiogbdahcaaGreat
