import Derived.Test.YtalmoiogbdahcaaGreatYWrdC
import Derived.Test.YtalmoiogbdahcaaGreatYMapA
import Derived.Test.YtalmoiogbdahcaaGreatYGramE
import Derived.Test.YtalmoiogbdahcaaGreatYRefI
namespace Go.Proofs.YtalmoiogbdahcaaGreat
set_option maxRecDepth 100000
set_option maxHeartbeats 8000000
open Go.RowKit
theorem within_any (x l m : Int) (w : World) : Calls Tryz.prog 55 #[.int .i64 x, .int .i64 l, .int .i64 m] w fun e w' => e = .returned (.bool (decide (l <= x) && decide (x <= m))) /\ w' = w := by
 by_cases h1 : l <= x
 ·go_enter Tryz.func55, Tryz.ntmps55
  go_wp2
  go_ret
  exact ⟨ret_bool (by simp [h1]), rfl⟩
 ·go_enter Tryz.func55, Tryz.ntmps55
  go_wp2
  go_ret
  exact ⟨ret_bool (by have h2 : ¬ l <= x := (by omega); simp [h2]), rfl⟩
theorem head_of_same {x y : ByteArray} (hx : readS x = true) (hy : readS y = true) : ((readOf x).toList == (readOf y).toList) = true ↔ headV (headKind (rd0 x)) (headRel (rd0 x)) = headV (headKind (rd0 y)) (headRel (rd0 y)) := by
 obtain ⟨-, k, r, wy, op, ts, d⟩ := read_rule x hx
 obtain ⟨-, k', r', wy', op', ts', d'⟩ := read_rule y hy
 obtain ⟨a1, a2, -, -⟩ := rule_of x d
 obtain ⟨b1, b2, -, -⟩ := rule_of y d'
 rw [a1, a2, b1, b2, (rule_read x d).1, (rule_read y d').1, Lib.toList_data, Lib.toList_data, mk_list, mk_list, beq_iff_eq]
 constructor
 ·intro h
  have hk : k = k' /\ r = r' := by
   have h1 : ∀ z ∈ k, z ≠ (35 : UInt8) := noMark_ne (nameL_noMark d.hk) (by decide)
   have h2 : ∀ z ∈ k', z ≠ (35 : UInt8) := noMark_ne (nameL_noMark d'.hk) (by decide)
   have e1 := idx_at k r 35 h1
   have e2 := idx_at k' r' 35 h2
   rw [h, e2] at e1
   have el : k'.length = k.length := by injection e1
   have := List.append_inj h el.symm
   refine ⟨this.1, ?_⟩
   have t := this.2
   injection t
  rw [hk.1, hk.2]
 ·intro h
  obtain ⟨h1, h2⟩ := headV_inj h
  have e1 : k = k' := congrArg (fun s => s.data.toList) h1
  have e2 : r = r' := congrArg (fun s => s.data.toList) h2
  rw [e1, e2]
structure RMap (w : World) (lo : Nat) (xs : List ByteArray) (m : List (Value × Value)) : Prop where
 len : m.length = xs.length
 key : ∀ (i : Nat) (x : ByteArray) (p : Value × Value), xs[i]? = some x -> m[i]? = some p -> p.1 = headV (headKind (rd0 x)) (headRel (rd0 x))
 way : ∀ (i : Nat) (x : ByteArray) (p : Value × Value), xs[i]? = some x -> m[i]? = some p -> WayAt w (lo <= ·) (ruleW x).1 p.2
structure POInv (xs : List ByteArray) (w wr : World) (k mb : Nat) (m : List (Value × Value)) : Prop where
 map : MapAt wr HeadG mb m
 rmap : RMap wr w.heap.size (xs.take k) m
 below : Below w.heap.size w wr
 lo : w.heap.size <= mb
 ok : ∀ j, j < k -> faultK xs j = none
theorem Tryz.zeroWay (w : World) : (zeroValue 106).run Tryz.prog w = .ok (.agg #[.int .i64 0, .string { data := #[] }, .string { data := #[] }, .slice none 0 0]) w := by kernel_rfl
theorem WayAt.move2 {w w' : World} {In In' : Nat -> Prop} {t : WayT} {v : Value} (h : WayAt w In t v) (hw : ∀ g cur, In g -> w.heap[g]? = some (.cells cur 106 (0, 0)) -> In' g /\ w'.heap[g]? = w.heap[g]?) : WayAt w' In' t v := by
 induction h with
 | leaf is a b => exact .leaf is a b
 | node is ts vs g cap cur h1 h2 h3 h4 h5 h6 ih =>
  obtain ⟨g1, g2⟩ := hw g cur h1 h2
  exact .node is ts vs g cap cur g1 (by rw [g2]; exact h2) h3 h4 h5 ih
theorem RMap.move {w w' : World} {lo : Nat} {xs : List ByteArray} {m : List (Value × Value)} (h : RMap w lo xs m) (hw : ∀ g cur, lo <= g -> w.heap[g]? = some (.cells cur 106 (0, 0)) -> w'.heap[g]? = w.heap[g]?) : RMap w' lo xs m :=
 ⟨h.len, h.key, fun i x p h1 h2 => (h.way i x p h1 h2).move2 fun g cur hg hc => ⟨hg, hw g cur hg hc⟩⟩
theorem head_good {x : ByteArray} (hx : ruleOk x = true) : HeadG (headV (headKind (rd0 x)) (headRel (rd0 x))) := by
 have hs : x.size <= 200 := by unfold ruleOk at hx; simp only [Bool.and_eq_true, decide_eq_true_eq] at hx; exact hx.1
 rw [rule_same] at hx
 obtain ⟨-, k, r, wy, op, ts, d⟩ := read_rule x hx
 obtain ⟨a1, a2, -, -⟩ := rule_of x d
 have ht := d.text
 have hlen : x.size = (k ++ 35 :: (r ++ 61 :: wy)).length := by rw [size_len, ht]
 simp at hlen
 refine ⟨mk k, mk r, by rw [a1, a2], ?_, ?_⟩
 ·rw [mk_size]; unfold maxLen; omega
 ·rw [mk_size]; unfold maxLen; omega
theorem POInv.dup {xs : List ByteArray} {w wr : World} {k mb : Nat} {m : List (Value × Value)} (h : POInv xs w wr k mb m) {x : ByteArray} (hk : xs[k]? = some x) (hx : ruleOk x = true) :
  (∀ v, getM m (headV (headKind (rd0 x)) (headRel (rd0 x))) = some v -> faultK xs k = some 3) /\ (getM m (headV (headKind (rd0 x)) (headRel (rd0 x))) = none -> faultK xs k = none) := by
 have hr : readS x = true := by rw [← rule_same]; exact hx
 have hkl := (List.getElem?_eq_some_iff.1 hk).1
 have hlen : m.length = k := by rw [h.rmap.len, List.length_take]; omega
 have hval : ∀ j y, j < k -> xs[j]? = some y -> readS y = true := fun j y hj hy => by
  have := h.ok j hj
  unfold faultK at this
  rw [hy] at this
  cases e : readS y
  ·simp [e] at this
  ·rfl
 constructor
 ·intro v hv
  obtain ⟨i, hi⟩ := List.mem_iff_getElem?.1 (getM_mem hv)
  have hil : i < k := by have := (List.getElem?_eq_some_iff.1 hi).1; omega
  obtain ⟨y, hy⟩ : ∃ y, xs[i]? = some y := ⟨_, List.getElem?_eq_getElem (by omega)⟩
  have hkey := h.rmap.key i y _ (by rw [List.getElem?_take_of_lt hil]; exact hy) hi
  exact faultK_three hk hr hil hy ((head_of_same (hval i y hil hy) hr).2 hkey.symm)
 ·intro hn
  refine faultK_none hk hr fun j y hj hy => ?_
  cases e : ((readOf y).toList == (readOf x).toList)
  ·rfl
  ·exfalso
   have hh := (head_of_same (hval j y hj hy) hr).1 e
   obtain ⟨p, hp⟩ : ∃ p, m[j]? = some p := ⟨_, List.getElem?_eq_getElem (by omega)⟩
   have hkey := h.rmap.key j y p (by rw [List.getElem?_take_of_lt hj]; exact hy) hp
   exact getM_none' hn p (List.mem_of_getElem? hp) (hkey.trans hh)
theorem POInv.next {xs : List ByteArray} {w wr : World} {k mb : Nat} {m : List (Value × Value)} (h : POInv xs w wr k mb m) {x : ByteArray} (hk : xs[k]? = some x) (hx : ruleOk x = true) (hn : getM m (headV (headKind (rd0 x)) (headRel (rd0 x))) = none)
  {w3 : World} (hb3 : Below wr.heap.size wr w3) {v : Value} (hv : WayAt w3 (wr.heap.size <= ·) (ruleW x).1 v) :
  ∃ w4, (Instr.mapUpdate 96 (.map (some mb)) (headV (headKind (rd0 x)) (headRel (rd0 x))) v).run Tryz.prog w3 = .ok () w4 /\ POInv xs w w4 (k + 1) mb (m ++ [(headV (headKind (rd0 x)) (headRel (rd0 x)), v)]) := by
 have hml := h.map.lt
 have hm3 : MapAt w3 HeadG mb m := h.map.move (hb3.block mb hml)
 obtain ⟨w4, hrun, hm4, hg4, hsz4⟩ := map_put_new head_ok Tryz.underlying96 hm3 (head_good hx) hn v
 refine ⟨w4, hrun, hm4, ?_, ?_, h.lo, ?_⟩
 ·have hkl := List.getElem?_eq_some_iff.1 hk
  obtain ⟨hk1, hk2⟩ := hkl
  have hcells : ∀ (g : Nat) (cur : Array Value), w3.heap[g]? = some (.cells cur 106 (0, 0)) -> w4.heap[g]? = w3.heap[g]? := fun g cur hc => by
   refine hg4.block g (row_lt hc) ?_
   intro e
   injection e with e
   subst e
   obtain ⟨es, c, h1, -⟩ := hm3
   rw [h1] at hc; cases hc
  have hold : RMap w4 w.heap.size (xs.take k) m := h.rmap.move fun g cur hg hc => by
   have e := hb3.block g (row_lt hc)
   rw [hcells g cur (by rw [e]; exact hc), e]
  have hlen : m.length = k := by rw [hold.len, List.length_take]; omega
  have htl : (xs.take k).length = k := by rw [List.length_take]; omega
  refine ⟨?_, ?_, ?_⟩
  ·rw [List.length_append, List.length_take]; simp; omega
  ·intro i y p hy hp
   rw [List.take_succ_eq_append_getElem hk1, hk2] at hy
   by_cases hi : i < k
   ·rw [List.getElem?_append_left (by omega)] at hy hp
    exact hold.key i y p hy hp
   ·by_cases hi2 : i = k
    ·subst hi2
     rw [List.getElem?_append_right (by omega), htl] at hy
     rw [List.getElem?_append_right (by omega), hlen] at hp
     simp at hy hp
     subst hy; rw [← hp]
    ·rw [List.getElem?_eq_none (by rw [List.length_append, htl]; simp; omega)] at hy; cases hy
  ·intro i y p hy hp
   rw [List.take_succ_eq_append_getElem hk1, hk2] at hy
   by_cases hi : i < k
   ·rw [List.getElem?_append_left (by omega)] at hy hp
    exact hold.way i y p hy hp
   ·by_cases hi2 : i = k
    ·subst hi2
     rw [List.getElem?_append_right (by omega), htl] at hy
     rw [List.getElem?_append_right (by omega), hlen] at hp
     simp at hy hp
     subst hy; rw [← hp]
     have hws := h.below.size
     exact hv.move2 fun g cur hg hc => ⟨Nat.le_trans hws hg, hcells g cur hc⟩
    ·rw [List.getElem?_eq_none (by rw [List.length_append, htl]; simp; omega)] at hy; cases hy
 ·refine (h.below.trans (hb3.mono h.below.size)).grown hg4 (Nat.le_trans h.below.size hb3.size) (fun j hj => ?_)
  injection hj with hj
  subst hj; exact h.lo
 ·intro j hj
  by_cases e : j = k
  ·subst e; exact (h.dup hk hx).2 hn
  ·exact h.ok j (by omega)
theorem POInv.start (xs : List ByteArray) (w : World) : POInv xs w (w.alloc (.map #[] 0)) 0 w.heap.size [] :=
 ⟨MapAt.new w HeadG, ⟨rfl, fun i x p h _ => (by simp at h), fun i x p h _ => (by simp at h)⟩, (Below.refl _ _).alloc (Nat.le_refl _) _, Nat.le_refl _, fun j hj => by omega⟩
theorem Tryz.infoReq : (Tryz.prog.info? 158).map (fun i => (i.zero, i.size, i.bytes)) = some (some (.pointer none), 1, 8) := by kernel_rfl
def deskL (qu clock : Int) (tv wv : Value) : List Value := [.int .i64 qu, .int .i64 clock, tv, wv]
def noReq (n : Nat) : List Value := List.replicate n (.pointer none)
def DeskNew (w : World) (lo db wk : Nat) (qu : Int) : Prop :=
 lo <= db /\ ∃ wb, lo <= wb /\ w.heap[db]? = some (.cells (deskL qu 0 (.slice none 0 0) (.slice (some ⟨wb, 0, none⟩) wk wk)).toArray 157 (0, 0)) /\ w.heap[wb]? = some (.cells (noReq wk).toArray 158 (0, 0))
theorem made_req (wk : Nat) : madeCells #[Value.pointer none] wk = (noReq wk).toArray := by
 apply Array.ext
 ·simp [madeCells, noReq]
 ·intro i h1 h2
  simp [madeCells, noReq, Nat.mod_one]
theorem deskNew_any (wk : Nat) (qu : Int) (h1 : 1 <= wk) (h4 : wk <= 4) (w : World) : Calls Tryz.prog 57 #[.int .i64 wk, .int .i64 qu] w fun e w' => ∃ db, e = .returned (.pointer (some ⟨db, 0, none⟩)) /\ Below w.heap.size w w' /\ DeskNew w' w.heap.size db wk qu := by
 have hmk := run_make_row' (P := Tryz.prog) 155 158 (.pointer none) 8 Tryz.underlying155 Tryz.infoReq rfl .i64 .i64 wk (by omega) (by omega)
 go_enter Tryz.func57, Tryz.ntmps57
 go_wp2
 rw [made_req]
 go_ret
 refine ⟨_, rfl, by repeat (first | exact Below.refl _ _ | refine Below.setCell ?_ (by first | exact Nat.le_refl _ | (simp; done) | (simp; omega)) _ | refine below_drewN ?_ _ | refine Below.drew ?_ | refine Below.alloc ?_ (by first | exact Nat.le_refl _ | (simp; done) | (simp; omega)) _), Nat.le_succ _, w.heap.size, Nat.le_refl _, ?_, alloc_row (alloc_new w (noReq wk) _) _⟩
 have h := alloc_new (w.alloc (.cells (noReq wk).toArray 158)) (deskL qu 0 (.slice none 0 0) (.slice (some ⟨w.heap.size, 0, none⟩) wk wk)) 157
 have e : (w.alloc (.cells (noReq wk).toArray 158)).heap.size = w.heap.size + 1 := by show (w.heap.push _).size = _; simp
 rw [e] at h
 exact h
theorem DeskNew.alloc {w : World} {lo db wk : Nat} {qu : Int} (h : DeskNew w lo db wk qu) (o : Obj) : DeskNew (w.alloc o) lo db wk qu := by
 obtain ⟨h1, wb, h2, h3, h4⟩ := h
 exact ⟨h1, wb, h2, (Below.heap_alloc _ _ _ (row_lt h3)).trans h3, (Below.heap_alloc _ _ _ (row_lt h4)).trans h4⟩
theorem DeskNew.mono {w : World} {lo lo' db wk : Nat} {qu : Int} (h : DeskNew w lo db wk qu) (hl : lo' <= lo) : DeskNew w lo' db wk qu := by
 obtain ⟨h1, wb, h2, h3⟩ := h
 exact ⟨Nat.le_trans hl h1, wb, Nat.le_trans hl h2, h3⟩
def POPost (xs : List ByteArray) (wk qu : Int) (w : World) (e : Ending) (w' : World) : Prop :=
 Below w.heap.size w w' /\ ((argsBad xs.length wk qu = true /\ e = .returned (.tuple #[.pointer none, .int .i64 0, .int .i64 1])) \/
  (argsBad xs.length wk qu = false /\ ((∃ k c, openErr xs = some (k, c) /\ e = .returned (.tuple #[.pointer none, .int .i64 k, .int .i64 c])) \/
    (openErr xs = none /\ ∃ b mb m db, e = .returned (.tuple #[.pointer (some ⟨b, 0, none⟩), .int .i64 0, .int .i64 0]) /\ w.heap.size <= b /\
      w'.heap[b]? = some (.cells [Value.int .i32 0, .int .u32 0, .map (some mb), .slice none 0 0, .int .i64 0, .pointer (some ⟨db, 0, none⟩), .bool false].toArray 99 (0, 0)) /\ w.heap.size <= mb /\ MapAt w' HeadG mb m /\ RMap w' w.heap.size xs m /\ DeskNew w' w.heap.size db wk.toNat qu))))
theorem readRule_no (x : ByteArray) (h : ruleOk x = false) (w : World) : Calls Tryz.prog 56 #[.string x] w fun e w' => e = .returned (.tuple #[.agg #[.string { data := #[] }, .string { data := #[] }, .int .i64 0, .string { data := #[] }, .string { data := #[] }, .slice none 0 0], .bool false]) /\ Below w.heap.size w w' := by
 refine (readRule_any x w).mono ?_
 rintro e w' ⟨hb, ⟨-, rfl⟩ | ⟨hh, -⟩⟩
 ·exact ⟨rfl, hb⟩
 ·rw [h] at hh; cases hh
theorem readRule_yes (x : ByteArray) (h : ruleOk x = true) (w : World) : Calls Tryz.prog 56 #[.string x] w fun e w' => ∃ is a b y n c, e = .returned (.tuple #[.agg #[.string (headKind (rd0 x)), .string (headRel (rd0 x)), .int .i64 is, .string a, .string b, .slice y n c], .bool true]) /\ Below w.heap.size w w' /\ WayAt w' (w.heap.size <= ·) (ruleW x).1 (.agg #[.int .i64 is, .string a, .string b, .slice y n c]) := by
 refine (readRule_any x w).mono ?_
 rintro e w' ⟨hb, ⟨hh, -⟩ | ⟨-, is, a, b, y, n, c, rfl, hw⟩⟩
 ·rw [h] at hh; cases hh
 ·exact ⟨is, a, b, y, n, c, rfl, hb, hw⟩
theorem POInv.done {xs : List ByteArray} {w wr : World} {k mb : Nat} {m : List (Value × Value)} (h : POInv xs w wr k mb m) (hk : xs.length = k) {wk qu : Int} (ha : argsBad xs.length wk qu = false) {w1 : World} {db : Nat} (hb1 : Below wr.heap.size wr w1) (hd : DeskNew w1 wr.heap.size db wk.toNat qu) (e : Ending)
  (he : e = .returned (.tuple #[.pointer (some ⟨w1.heap.size, 0, none⟩), .int .i64 0, .int .i64 0])) : POPost xs wk qu w e (w1.alloc (.cells #[.int .i32 0, .int .u32 0, .map (some mb), .slice none 0 0, .int .i64 0, .pointer (some ⟨db, 0, none⟩), .bool false] 99)) := by
 have hs : w.heap.size <= w1.heap.size := Nat.le_trans h.below.size hb1.size
 refine ⟨(h.below.trans (hb1.mono h.below.size)).alloc hs _, Or.inr ⟨ha, Or.inr ⟨openErr_none fun j hj => h.ok j (by omega), w1.heap.size, mb, m, db, he, hs, alloc_new _ [Value.int .i32 0, .int .u32 0, .map (some mb), .slice none 0 0, .int .i64 0, .pointer (some ⟨db, 0, none⟩), .bool false] _, h.lo, h.map.move ((Below.heap_alloc _ _ _ (Nat.lt_of_lt_of_le h.map.lt hb1.size)).trans (hb1.block _ h.map.lt)), ?_, (hd.alloc _).mono h.below.size⟩⟩⟩
 have hr := h.rmap
 rw [List.take_of_length_le (by omega)] at hr
 exact hr.move fun g cur _ hc => (Below.heap_alloc _ _ _ (Nat.lt_of_lt_of_le (row_lt hc) hb1.size)).trans (hb1.block _ (row_lt hc))
theorem ghOpen_good (v : Value) (xs : List ByteArray) (wk qu : Int) (w : World) (h : StrsAt w v xs) (hn : xs.length <= 12) (h2 : 1 <= wk) (h3 : wk <= 4) (h4 : 1 <= qu) (h5 : qu <= 6) :
  Calls Tryz.prog 26 #[v, .int .i64 wk, .int .i64 qu] w (POPost xs wk qu w) := by
 have hmm := fun w1 => run_makeMap (P := Tryz.prog) 96 w1
 have hw1 := fun w1 => within_any wk 1 4 w1
 have hw2 := fun w1 => within_any qu 1 6 w1
 rw [decide_eq_true h2, decide_eq_true h3, Bool.and_self] at hw1
 rw [decide_eq_true h4, decide_eq_true h5, Bool.and_self] at hw2
 have HA : Hid (argsBad xs.length wk qu = false) := by show _ = _; unfold argsBad; simp; omega
 have HST := POInv.start xs w
 obtain ⟨kw, rfl⟩ : ∃ kw : Nat, wk = (kw : Int) := ⟨wk.toNat, by omega⟩
 have HNW : Hid (∀ w1, Calls Tryz.prog 57 #[.int .i64 kw, .int .i64 qu] w1 fun e w' => ∃ db, e = .returned (.pointer (some ⟨db, 0, none⟩)) /\ Below w1.heap.size w1 w' /\ DeskNew w' w1.heap.size db kw qu) := fun w1 => deskNew_any kw qu (by omega) (by omega) w1
 rcases h with ⟨rfl, rfl⟩ | ⟨b, off, cap, rfl, hc⟩
 ·go_enter Tryz.func26, Tryz.ntmps26
  go_wp2_with (first | (go_at_call 55; refine (hw1 _).mono ?_; clear hw1; rintro e w1 ⟨rfl, hw1'⟩; subst w1) | (go_at_call 55; refine (hw2 _).mono ?_; rintro e w1 ⟨rfl, hw1'⟩; subst w1))
  refine wp_loop_rounds 1 ?_
  rw [rounds_succ]
  go_wp2_with (go_at_call 57; refine (HNW.out _).mono ?_; rintro e w1 ⟨db, rfl, hb1, hd1⟩)
  exact bodyPost_ret (v := .tuple #[.pointer (some ⟨w1.heap.size, 0, none⟩), .int .i64 0, .int .i64 0]) (by simp [results, Tryz.results26, go_sem]) rfl (HST.done rfl HA.out hb1 hd1 _ rfl)
 ·obtain ⟨n, hx⟩ : ∃ n, xs.length = n := ⟨_, rfl⟩
  have HX : Hid (xs.length = n) := hx
  have hbw : ∀ k x, xs[k]? = some x -> b < w.heap.size := fun k x hk => cell_lt (hc k x hk)
  rw [hx] at hn ⊢
  have t1 : decide (12 < (n : Int)) = false := by simp; omega
  go_enter Tryz.func26, Tryz.ntmps26
  go_wp2_with (first | (go_at_call 55; refine (hw1 _).mono ?_; clear hw1; rintro e w1 ⟨rfl, hw1'⟩; subst w1) | (go_at_call 55; refine (hw2 _).mono ?_; rintro e w1 ⟨rfl, hw1'⟩; subst w1))
  clear hw2 t1 hmm
  go_loopw [32] (fun i wr => ∃ (k : Nat) (m : List (Value × Value)), k <= n /\ i = .int .i64 k /\ POInv xs w wr k w.heap.size m) (fun i _ => n - (intOf i).toNat)
  case atStart => exact ⟨0, _, Nat.zero_le _, rfl, HST⟩
  case round =>
   obtain ⟨k, m, hk, rfl, hI⟩ := hrel
   clear HST
   by_cases hlt : k < n
   ·have hkx : k < xs.length := by have := HX.out; omega
    obtain ⟨x, hx⟩ : ∃ x, xs[k] = x := ⟨_, rfl⟩
    have hkk : xs[k]? = some x := by rw [List.getElem?_eq_getElem hkx, hx]
    have hck : wr.cell? ⟨b, off + k, none⟩ = some (.string x) := by rw [← hc k x hkk]; exact hI.below.cell (hbw k x hkk)
    have HRD : Hid (∀ w1, Calls Tryz.prog 56 #[.string x] w1 (RPost x w1)) := fun w1 => readRule_any x w1
    have HI : Hid (POInv xs w wr k w.heap.size m) := hI
    have HKX : Hid (k < xs.length /\ xs[k]? = some x) := ⟨hkx, hkk⟩
    clear hkx hkk hx hI
    cases hr : ruleOk x
    ·have HF : Hid (openErr xs = some (k, 2)) := openErr_at HI.out.ok HKX.out.1 (faultK_two HKX.out.2 (by rw [← rule_same]; exact hr))
     have HNO : Hid (∀ w1, Calls Tryz.prog 56 #[.string x] w1 _) := fun w1 => readRule_no x hr w1
     clear HRD hr
     go_wp2_with (go_at_call 56; refine (HNO.out _).mono ?_; rintro e w1 ⟨rfl, hb1⟩)
     refine bodyPost_ret (v := .tuple #[.pointer none, .int .i64 k, .int .i64 2]) (by simp [results, Tryz.results26, go_sem]) rfl ⟨(HI.out.below.trans (hb1.mono HI.out.below.size)).alloc (Nat.le_trans HI.out.below.size hb1.size) _, Or.inr ⟨HA.out, Or.inl ⟨k, 2, HF.out, rfl⟩⟩⟩
    ·have HYES : Hid (∀ w1, Calls Tryz.prog 56 #[.string x] w1 _) := fun w1 => readRule_yes x hr w1
     have HR : Hid (ruleOk x = true) := hr
     have HG : Hid (HeadG (headV (headKind (rd0 x)) (headRel (rd0 x)))) := head_good hr
     clear HRD hr
     cases hg : getM m (headV (headKind (rd0 x)) (headRel (rd0 x))) with
     | some u =>
      have HF : Hid (openErr xs = some (k, 3)) := openErr_at HI.out.ok HKX.out.1 ((HI.out.dup HKX.out.2 HR.out).1 u hg)
      have HLK : Hid (∀ w2, Below wr.heap.size wr w2 -> (Instr.lookup 96 (.map (some w.heap.size)) (.agg #[.string (headKind (rd0 x)), .string (headRel (rd0 x))]) true).run Tryz.prog w2 = .ok (.tuple #[u, .bool true]) w2) := by
       intro w2 hb2
       have := (map_look head_ok Tryz.underlying96 (HI.out.map.move (hb2.block _ HI.out.map.lt)) HG.out (Tryz.zeroWay w2)).1
       rw [hg] at this; exact this
      have HAG : Hid (∃ is a b y n c, u = .agg #[.int .i64 is, .string a, .string b, .slice y n c]) := by
       obtain ⟨i, hi⟩ := List.mem_iff_getElem?.1 (getM_mem hg)
       have hil := (List.getElem?_eq_some_iff.1 hi).1
       rw [HI.out.rmap.len] at hil
       exact (HI.out.rmap.way i _ _ (List.getElem?_eq_getElem hil) hi).agg
      clear hg
      obtain ⟨ui, ua, ub, uy, un, uc, rfl⟩ := HAG.out
      generalize headKind (rd0 x) = hk' at *
      generalize headRel (rd0 x) = hr' at *
      go_wp2_with (go_at_call 56; refine (HYES.out _).mono ?_; rintro e w1 ⟨vi, va, vb, vy, vn, vc, rfl, hb1, -⟩; have hlk := HLK.out (w1.alloc (.cells #[.string hk', .string hr', .int .i64 vi, .string va, .string vb, .slice vy vn vc] 108)) (hb1.alloc hb1.size _))
      refine bodyPost_ret (v := .tuple #[.pointer none, .int .i64 k, .int .i64 3]) (by simp [results, Tryz.results26, go_sem]) rfl ⟨((HI.out.below.trans (hb1.mono HI.out.below.size)).alloc (Nat.le_trans HI.out.below.size hb1.size) _).alloc (by simp; exact Nat.le_succ_of_le (Nat.le_trans HI.out.below.size hb1.size)) _, Or.inr ⟨HA.out, Or.inl ⟨k, 3, HF.out, rfl⟩⟩⟩
     | none =>
      have HLK : Hid (∀ w2, Below wr.heap.size wr w2 -> (Instr.lookup 96 (.map (some w.heap.size)) (.agg #[.string (headKind (rd0 x)), .string (headRel (rd0 x))]) true).run Tryz.prog w2 = .ok (.tuple #[.agg #[.int .i64 0, .string { data := #[] }, .string { data := #[] }, .slice none 0 0], .bool false]) w2) := by
       intro w2 hb2
       have := (map_look head_ok Tryz.underlying96 (HI.out.map.move (hb2.block _ HI.out.map.lt)) HG.out (Tryz.zeroWay w2)).1
       rw [hg] at this; exact this
      have HNX : Hid (∀ (w3 : World) (v : Value), Below wr.heap.size wr w3 -> WayAt w3 (wr.heap.size <= ·) (ruleW x).1 v -> ∃ w4, (Instr.mapUpdate 96 (.map (some w.heap.size)) (.agg #[.string (headKind (rd0 x)), .string (headRel (rd0 x))]) v).run Tryz.prog w3 = .ok () w4 /\ ∃ m', POInv xs w w4 (k + 1) w.heap.size m') := by
       intro w3 v hb3 hv
       obtain ⟨w4, h1, h2⟩ := HI.out.next HKX.out.2 HR.out hg hb3 hv
       exact ⟨w4, h1, _, h2⟩
      clear hg
      generalize headKind (rd0 x) = hk' at *
      generalize headRel (rd0 x) = hr' at *
      go_wp2_with (go_at_call 56; refine (HYES.out _).mono ?_; rintro e w1 ⟨vi, va, vb, vy, vn, vc, rfl, hb1, hv1⟩; have hlk := HLK.out (w1.alloc (.cells #[.string hk', .string hr', .int .i64 vi, .string va, .string vb, .slice vy vn vc] 108)) (hb1.alloc hb1.size _); obtain ⟨w4, hup, m', hI4⟩ := HNX.out ((w1.alloc (.cells #[.string hk', .string hr', .int .i64 vi, .string va, .string vb, .slice vy vn vc] 108)).alloc (.cells #[.int .i64 0, .string { data := #[] }, .string { data := #[] }, .slice none 0 0] 106)) (.agg #[.int .i64 vi, .string va, .string vb, .slice vy vn vc]) ((hb1.alloc hb1.size _).alloc (by simp; exact Nat.le_succ_of_le hb1.size) _) (hv1.move fun g hg hl => ⟨hg, by rw [Below.heap_alloc _ _ _ (by simp; omega), Below.heap_alloc _ _ _ hl]⟩); have HI4 : Hid (POInv xs w w4 (k + 1) w.heap.size m') := hI4; clear hI4 hv1)
      go_roundw
      case rel => exact ⟨k + 1, m', by omega, by go_num, HI4.out⟩
      case measure => simp [intOf]; omega
   ·obtain rfl : k = n := by omega
    go_wp2_with (go_at_call 57; refine (HNW.out _).mono ?_; rintro e w1 ⟨db, rfl, hb1, hd1⟩)
    exact bodyPost_ret (v := .tuple #[.pointer (some ⟨w1.heap.size, 0, none⟩), .int .i64 0, .int .i64 0]) (by simp [results, Tryz.results26, go_sem]) rfl (hI.done HX.out HA.out hb1 hd1 _ rfl)
theorem ghOpen_bad (v : Value) (xs : List ByteArray) (wk qu : Int) (w : World) (h : StrsAt w v xs) (hl : xs.length <= maxLen) (hb : argsBad xs.length wk qu = true) :
  Calls Tryz.prog 26 #[v, .int .i64 wk, .int .i64 qu] w (POPost xs wk qu w) := by
 obtain ⟨n, hn⟩ : ∃ n, xs.length = n := ⟨_, rfl⟩
 have HP : Hid (∀ e, e = .returned (.tuple #[.pointer none, .int .i64 0, .int .i64 1]) -> POPost xs wk qu w e w) := fun e he => ⟨Below.refl _ _, Or.inl ⟨hb, he⟩⟩
 have hv : ∃ x c, v = .slice x n c := by
  rcases h with ⟨rfl, rfl⟩ | ⟨b, off, cap, rfl, -⟩
  ·exact ⟨none, 0, by rw [← hn]; rfl⟩
  ·exact ⟨_, cap, by rw [hn]⟩
 obtain ⟨x, c, rfl⟩ := hv
 rw [hn] at hb hl
 unfold maxLen at hl
 generalize POPost xs wk qu w = post at *
 clear h hn
 unfold argsBad at hb
 have hw1 := fun w1 => within_any wk 1 4 w1
 have hw2 := fun w1 => within_any qu 1 6 w1
 by_cases h1 : 12 < n
 ·clear hb
  go_enter Tryz.func26, Tryz.ntmps26
  go_wp2_with fail
  exact bodyPost_ret (v := .tuple #[.pointer none, .int .i64 0, .int .i64 1]) (by simp [results, Tryz.results26, go_sem]) rfl (HP.out _ rfl)
 ·have t1 : decide (12 < (n : Int)) = false := by simp; omega
  by_cases h2 : 1 <= wk /\ wk <= 4
  ·have h3 : (decide (1 <= qu) && decide (qu <= 6)) = false := by
    obtain ⟨ha, hb'⟩ := h2
    simp [h1] at hb ⊢
    omega
   rw [decide_eq_true h2.1, decide_eq_true h2.2, Bool.and_self] at hw1
   rw [h3] at hw2
   clear hb h3
   go_enter Tryz.func26, Tryz.ntmps26
   go_wp2_with (first | (go_at_call 55; refine (hw1 _).mono ?_; clear hw1; rintro e w1 ⟨rfl, hw1'⟩; subst w1) | (go_at_call 55; refine (hw2 _).mono ?_; rintro e w1 ⟨rfl, hw1'⟩; subst w1))
   exact bodyPost_ret (v := .tuple #[.pointer none, .int .i64 0, .int .i64 1]) (by simp [results, Tryz.results26, go_sem]) rfl (HP.out _ rfl)
  ·have h3 : (decide (1 <= wk) && decide (wk <= 4)) = false := by simp; omega
   rw [h3] at hw1
   clear hb h3
   go_enter Tryz.func26, Tryz.ntmps26
   go_wp2_with (first | (go_at_call 55; refine (hw1 _).mono ?_; clear hw1; rintro e w1 ⟨rfl, hw1'⟩; subst w1))
   exact bodyPost_ret (v := .tuple #[.pointer none, .int .i64 0, .int .i64 1]) (by simp [results, Tryz.results26, go_sem]) rfl (HP.out _ rfl)
theorem ghOpen_any (v : Value) (xs : List ByteArray) (wk qu : Int) (w : World) (h : StrsAt w v xs) (hl : xs.length <= maxLen) :
  Calls Tryz.prog 26 #[v, .int .i64 wk, .int .i64 qu] w (POPost xs wk qu w) := by
 cases hb : argsBad xs.length wk qu
 ·have hb' := hb
  unfold argsBad at hb'
  simp at hb'
  exact ghOpen_good v xs wk qu w h (by omega) (by omega) (by omega) (by omega) (by omega)
 ·exact ghOpen_bad v xs wk qu w h hl hb
theorem refOpen_any (v : Value) (xs : List ByteArray) (wk qu : Int) (w : World) (h : StrsAt w v xs) (hl : xs.length <= maxLen) (hsz : ∀ x ∈ xs, x.size <= maxLen) :
  Calls Tryz.prog 70 #[v, .int .i64 wk, .int .i64 qu] w (ROPost xs wk qu w) := by
 cases hb : argsBad xs.length wk qu
 ·have hb' := hb
  unfold argsBad at hb'
  simp at hb'
  obtain ⟨k, rfl⟩ : ∃ k : Nat, wk = (k : Int) := ⟨wk.toNat, by omega⟩
  exact refOpen_good v xs k qu w h (by omega) hsz (by omega) (by omega) (by omega) (by omega)
 ·exact refOpen_bad v xs wk qu w h hl hb
theorem ofS_node (k n r : List UInt8) (hk : nameL k = true) (hn : nameL n = true) : (ofS (mk (k ++ 58 :: (n ++ 35 :: r)))).toList = k ++ 35 :: r := by
 have h1 : ∀ x ∈ k ++ 58 :: n, x ≠ (35 : UInt8) := by
  intro x hx
  simp only [List.mem_append, List.mem_cons] at hx
  rcases hx with h | rfl | h
  ·exact noMark_ne (nameL_noMark hk) m35 x h
  ·decide
  ·exact noMark_ne (nameL_noMark hn) m35 x h
 obtain ⟨a1, a2, -⟩ := cut_at (mk (k ++ 58 :: (n ++ 35 :: r))) (k ++ 58 :: n) r 35 (by rw [mk_list]; simp) h1
 have h2 : ∀ x ∈ k, x ≠ (58 : UInt8) := noMark_ne (nameL_noMark hk) m58
 obtain ⟨b1, -, -⟩ := cut_at (mk (k ++ 58 :: n)) k n 58 (mk_list _) h2
 have a1' : cutA (mk (k ++ 58 :: (n ++ 35 :: r))) 35 = mk (k ++ 58 :: n) := a1
 have a2' : cutZ (mk (k ++ 58 :: (n ++ 35 :: r))) 35 = mk r := a2
 have b1' : cutA (mk (k ++ 58 :: n)) 58 = mk k := b1
 unfold ofS kindOf relOf
 rw [a1', a2', b1', Lib.toList_data]
 simp [mk, ByteArray.data_append]
theorem ok_all {xs : List ByteArray} (h : openErr xs = none) : ∀ (j : Nat) (y : ByteArray), xs[j]? = some y -> readS y = true := by
 intro j y hy
 unfold openErr at h
 rw [List.findSome?_eq_none_iff] at h
 have hj := (List.getElem?_eq_some_iff.1 hy).1
 have := h j (List.mem_range.2 hj)
 rw [Option.map_eq_none_iff] at this
 unfold faultK at this
 rw [hy] at this
 cases e : readS y
 ·simp [e] at this
 ·rfl
theorem rule_found {w : World} {lo : Nat} {xs : List ByteArray} {m : List (Value × Value)} (h : RMap w lo xs m) (hm : (m.map (·.1)).Nodup) (ho : openErr xs = none) (k n r : List UInt8) (hk : nameL k = true) (hn : nameL n = true) :
  ((getM m (headV (mk k) (mk r))).isSome = true ↔ (ruleL (ruleOfs xs) (mk (k ++ 58 :: (n ++ 35 :: r)))).size ≠ 0) := by
 have hval := ok_all ho
 have hkey : ∀ (j : Nat) (y : ByteArray), xs[j]? = some y -> ((readOf y).toList = k ++ 35 :: r ↔ headV (headKind (rd0 y)) (headRel (rd0 y)) = headV (mk k) (mk r)) := by
  intro j y hy
  obtain ⟨-, k', r', wy, op, ts, d⟩ := read_rule y (hval j y hy)
  obtain ⟨a1, a2, -, -⟩ := rule_of y d
  rw [a1, a2, (rule_read y d).1, Lib.toList_data, mk_list]
  constructor
  ·intro h
   have h1 : ∀ z ∈ k', z ≠ (35 : UInt8) := noMark_ne (nameL_noMark d.hk) m35
   have h2 : ∀ z ∈ k, z ≠ (35 : UInt8) := noMark_ne (nameL_noMark hk) m35
   have e1 := idx_at k' r' 35 h1
   have e2 := idx_at k r 35 h2
   rw [h, e2] at e1
   have el : k.length = k'.length := by injection e1
   have := List.append_inj h el.symm
   have t := this.2
   injection t with _ t
   rw [this.1, t]
  ·intro h
   obtain ⟨h1, h2⟩ := headV_inj h
   have e1 : k' = k := congrArg (fun s => s.data.toList) h1
   have e2 : r' = r := congrArg (fun s => s.data.toList) h2
   rw [e1, e2]
 unfold ruleL
 rw [ofS_node k n r hk hn]
 cases hf : (ruleOfs xs).find? (fun x => x.1.toList == k ++ 35 :: r) with
 | none =>
  have hno : getM m (headV (mk k) (mk r)) = none := by
   refine getM_none fun p hp e => ?_
   obtain ⟨j, hj⟩ := List.mem_iff_getElem?.1 hp
   have hjl := (List.getElem?_eq_some_iff.1 hj).1
   rw [h.len] at hjl
   obtain ⟨y, hy⟩ : ∃ y, xs[j]? = some y := ⟨_, List.getElem?_eq_getElem hjl⟩
   have hpk := h.key j y p hy hj
   have hr := (hkey j y hy).2 (hpk.symm.trans e)
   rw [List.find?_eq_none] at hf
   have := hf (readOf y, readWay y) (List.mem_map.2 ⟨y, List.mem_of_getElem? hy, rfl⟩)
   simp [hr] at this
  rw [hno]
  simp [ByteArray.size]
 | some x =>
  have hx := List.find?_some hf
  obtain ⟨y, hy, rfl⟩ := List.mem_map.1 (List.mem_of_find?_eq_some hf)
  obtain ⟨j, hj⟩ := List.mem_iff_getElem?.1 hy
  simp at hx
  have hh := (hkey j y hj).1 hx
  have hjl := (List.getElem?_eq_some_iff.1 hj).1
  obtain ⟨p, hp⟩ : ∃ p, m[j]? = some p := ⟨_, List.getElem?_eq_getElem (by rw [h.len]; exact hjl)⟩
  have hpk := (h.key j y p hj hp).trans hh
  have hg : getM m (headV (mk k) (mk r)) = some p.2 := getM_of hm (by rw [← hpk]; exact List.mem_of_getElem? hp)
  rw [hg]
  obtain ⟨-, k', r', wy, op, ts, d⟩ := read_rule y (hval j y hj)
  have hw := (rule_read y d).2.1
  simp only [Option.isSome_some, true_iff]
  rw [hw, mk_size]
  exact fun e => gr_ne d.gr (List.eq_nil_of_length_eq_zero e)
noncomputable def faultG (m : List (Value × Value)) (s : ByteArray) : Int :=
 if (preB s { data := #[43] } || preB s { data := #[45] }) = false then 4
 else if tupOk (s.extract 1 s.size) = false then 4
 else if (getM m (headV (tupNode (s.extract 1 s.size)).kind (tupNode (s.extract 1 s.size)).rel)).isSome = false \/ ((tupSubj (s.extract 1 s.size)).rel.size ≠ 0 /\ (getM m (headV (tupSubj (s.extract 1 s.size)).kind (tupSubj (s.extract 1 s.size)).rel)).isSome = false) then 5
 else 0
theorem signed_same (s : ByteArray) : (preB s { data := #[43] } || preB s { data := #[45] }) = false ↔ (s.size = 0 \/ (byteAt s 0 ≠ 43 /\ byteAt s 0 ≠ 45)) := by
 have h1 : ∀ c : UInt8, preB s { data := #[c] } = true ↔ (s.size ≠ 0 /\ byteAt s 0 = c.toNat) := by
  intro c
  rw [pre_iff]
  unfold byteAt
  rw [size_len]
  cases s.data.toList with
  | nil => simp
  | cons x l =>
   simp only [List.length_cons]
   constructor
   ·rintro ⟨r, hr⟩; injection hr with h _; exact ⟨by omega, by rw [h]; rfl⟩
   ·rintro ⟨-, h⟩
    have : x = c := (u8i x c).1 h
    exact ⟨l, by rw [this]; rfl⟩
 rw [Bool.or_eq_false_iff]
 have e1 : preB s { data := #[43] } = false ↔ ¬ (s.size ≠ 0 /\ byteAt s 0 = 43) := by rw [← Bool.not_eq_true, h1 43]; exact Iff.rfl
 have e2 : preB s { data := #[45] } = false ↔ ¬ (s.size ≠ 0 /\ byteAt s 0 = 45) := by rw [← Bool.not_eq_true, h1 45]; exact Iff.rfl
 rw [e1, e2]
 by_cases h0 : s.size = 0 <;> simp [h0]
theorem fault_same {w : World} {lo : Nat} {xs : List ByteArray} {m : List (Value × Value)} (h : RMap w lo xs m) (hm : (m.map (·.1)).Nodup) (ho : openErr xs = none) (s : ByteArray) : faultG m s = faultS (ruleOfs xs) s := by
 unfold faultG faultS
 by_cases h1 : (preB s { data := #[43] } || preB s { data := #[45] }) = false
 ·rw [if_pos h1, if_pos ((signed_same s).1 h1)]
 ·rw [if_neg h1, if_neg (fun e => h1 ((signed_same s).2 e)), tuple_same]
  cases ht : tupOk (s.extract 1 s.size)
  ·simp
  ·obtain ⟨k, n, r, k2, n2, o, d⟩ := parts_of _ ht
   obtain ⟨-, p1, p2⟩ := tup_of _ k n r k2 n2 o d
   obtain ⟨c1, c2, -⟩ := tup_cut _ k n r k2 n2 o d
   rw [c1, c2]
   simp only [Bool.true_eq_false, if_false]
   have q1 := rule_found h hm ho k n r d.hk d.hn
   rw [p1, p2]
   dsimp only
   cases o with
   | none =>
    have hnode : nodeS (mk (k2 ++ 58 :: (n2 ++ otail none))) = false := by
     cases e : nodeS (mk (k2 ++ 58 :: (n2 ++ otail none)))
     ·rfl
     ·exfalso
      unfold nodeS at e
      simp only [Bool.and_eq_true] at e
      have t := cut_of _ 35 e.1.1
      have : (35 : UInt8) ∈ k2 ++ 58 :: (n2 ++ []) := by
       have t' : k2 ++ 58 :: (n2 ++ []) = _ := t
       rw [t']; simp
      simp only [List.append_nil, List.mem_append, List.mem_cons] at this
      rcases this with h | h | h
      ·exact noMark_ne (nameL_noMark d.hk2) m35 _ h rfl
      ·exact absurd h (by decide)
      ·exact noMark_ne (nameL_noMark d.hn2) m35 _ h rfl
    rw [hnode]
    have e1 : ((getM m (headV (mk k) (mk r))).isSome = false) ↔ (ruleL (ruleOfs xs) (mk (k ++ 58 :: (n ++ 35 :: r)))).size = 0 := by
     rw [← Bool.not_eq_true, q1]; simp
    have hz : ¬ ((orel none).size ≠ 0) := fun e => e rfl
    by_cases ha : (getM m (headV (mk k) (mk r))).isSome = false
    ·rw [if_pos (Or.inl ha), if_pos (Or.inl (e1.1 ha))]
    ·rw [if_neg (by rintro (h | h); exact ha h; exact hz h.1), if_neg (by rintro (h | h); exact ha (e1.2 h); exact absurd h.1 (by decide))]
   | some x =>
    have hx := d.ho x rfl
    have hnode : nodeS (mk (k2 ++ 58 :: (n2 ++ otail (some x)))) = true := nodeS_ok k2 n2 x d.hk2 d.hn2 hx
    rw [hnode]
    have q2 := rule_found h hm ho k2 n2 x d.hk2 d.hn2
    have e1 : ((getM m (headV (mk k) (mk r))).isSome = false) ↔ (ruleL (ruleOfs xs) (mk (k ++ 58 :: (n ++ 35 :: r)))).size = 0 := by
     rw [← Bool.not_eq_true, q1]; simp
    have e2 : ((getM m (headV (mk k2) (mk x))).isSome = false) ↔ (ruleL (ruleOfs xs) (mk (k2 ++ 58 :: (n2 ++ 35 :: x)))).size = 0 := by
     rw [← Bool.not_eq_true, q2]; simp
    have hsz : (mk x).size ≠ 0 := by rw [mk_size]; exact fun e => nameL_ne hx (List.eq_nil_of_length_eq_zero e)
    have hrel : orel (some x) = mk x := rfl
    rw [hrel]
    have eo : otail (some x) = 35 :: x := rfl
    rw [eo]
    by_cases ha : (getM m (headV (mk k) (mk r))).isSome = false
    ·rw [if_pos (Or.inl ha), if_pos (Or.inl (e1.1 ha))]
    ·by_cases hb : (getM m (headV (mk k2) (mk x))).isSome = false
     ·rw [if_pos (Or.inr ⟨hsz, hb⟩), if_pos (Or.inr ⟨rfl, e2.1 hb⟩)]
     ·rw [if_neg (by rintro (h | h); exact ha h; exact hb h.2), if_neg (by rintro (h | h); exact ha (e1.2 h); exact hb (e2.2 h.2))]
end Go.Proofs.YtalmoiogbdahcaaGreat
