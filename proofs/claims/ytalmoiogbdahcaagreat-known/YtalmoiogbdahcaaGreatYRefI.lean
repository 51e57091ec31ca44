import Derived.Test.YtalmoiogbdahcaaGreatYRefH
import Derived.BigRegion
import Derived.RegionTactic
import Derived.Deep.RegionLaw
namespace Go.Proofs.YtalmoiogbdahcaaGreat
set_option maxRecDepth 100000
set_option maxHeartbeats 8000000
open Go.RowKit
def faultK (rs : List ByteArray) (k : Nat) : Option Int :=
 match rs[k]? with
 | none => none
 | some s => if readS s = false then some 2 else if (rs.take k).any (fun x => (readOf x).toList == (readOf s).toList) then some 3 else none
def openErr (rs : List ByteArray) : Option (Nat × Int) := (List.range rs.length).findSome? fun k => (faultK rs k).map fun c => (k, c)
theorem openErr_at {rs : List ByteArray} {k : Nat} {c : Int} (h : ∀ j, j < k -> faultK rs j = none) (hk : k < rs.length) (hc : faultK rs k = some c) : openErr rs = some (k, c) := by
 unfold openErr
 rw [show List.range rs.length = List.range k ++ (List.range (rs.length - k)).map (k + ·) from by rw [← List.range_add, Nat.add_sub_cancel' (by omega)], List.findSome?_append]
 have h1 : (List.range k).findSome? (fun k => (faultK rs k).map fun c => (k, c)) = none := by
  rw [List.findSome?_eq_none_iff]
  intro j hj
  rw [h j (List.mem_range.1 hj)]; rfl
 rw [h1]
 obtain ⟨n, hn⟩ : ∃ n, rs.length - k = n + 1 := ⟨rs.length - k - 1, by omega⟩
 rw [hn, List.range_succ_eq_map]
 simp [hc]
theorem openErr_none {rs : List ByteArray} (h : ∀ j, j < rs.length -> faultK rs j = none) : openErr rs = none := by
 unfold openErr
 rw [List.findSome?_eq_none_iff]
 intro j hj
 rw [h j (List.mem_range.1 hj)]; rfl
def argsBad (n : Nat) (wk qu : Int) : Bool := decide (12 < n) || decide (wk < 1) || decide (4 < wk) || decide (qu < 1) || decide (6 < qu)
def ruleOfs (xs : List ByteArray) : List (ByteArray × ByteArray) := xs.map fun s => (readOf s, readWay s)
def flR (xs : List (ByteArray × ByteArray)) : List Value := xs.flatMap fun x => [.string x.1, .string x.2]
def ROPost (xs : List ByteArray) (wk qu : Int) (w : World) (e : Ending) (w' : World) : Prop :=
 Below w.heap.size w w' /\ ((argsBad xs.length wk qu = true /\ e = .returned (.tuple #[.pointer none, .int .i64 0, .int .i64 1])) \/
  (argsBad xs.length wk qu = false /\ ((∃ k c, openErr xs = some (k, c) /\ e = .returned (.tuple #[.pointer none, .int .i64 k, .int .i64 c])) \/
    (openErr xs = none /\ ∃ b rv wb n, e = .returned (.tuple #[.pointer (some ⟨b, 0, none⟩), .int .i64 0, .int .i64 0]) /\ w.heap.size <= b /\ RgAt w' b ⟨rv, .slice none 0 0, 0, 0, false, qu, .slice none 0 0, .slice (some ⟨wb, 0, none⟩) n n⟩ /\
      w'.ownsRow w.heap.size 163 2 rv (ruleOfs xs).length (flR (ruleOfs xs)) /\ (n : Int) = wk /\ w.heap.size <= wb /\ w'.heap[wb]? = some (.cells (List.replicate n (Value.int .i64 0)).toArray 3 (0, 0))))))
theorem refOpen_bad (v : Value) (xs : List ByteArray) (wk qu : Int) (w : World) (h : StrsAt w v xs) (hl : xs.length <= maxLen) (hb : argsBad xs.length wk qu = true) :
  Calls Tryz.prog 70 #[v, .int .i64 wk, .int .i64 qu] w (ROPost xs wk qu w) := by
 obtain ⟨n, hn⟩ : ∃ n, xs.length = n := ⟨_, rfl⟩
 have HP : Hid (∀ e, e = .returned (.tuple #[.pointer none, .int .i64 0, .int .i64 1]) -> ROPost xs wk qu w e w) := fun e he => ⟨Below.refl _ _, Or.inl ⟨hb, he⟩⟩
 have hv : ∃ x c, v = .slice x n c := by
  rcases h with ⟨rfl, rfl⟩ | ⟨b, off, cap, rfl, -⟩
  ·exact ⟨none, 0, by rw [← hn]; rfl⟩
  ·exact ⟨_, cap, by rw [hn]⟩
 obtain ⟨x, c, rfl⟩ := hv
 rw [hn] at hb hl
 unfold maxLen at hl
 generalize ROPost xs wk qu w = post at *
 clear h hn
 unfold argsBad at hb
 by_cases h1 : 12 < n
 ·clear hb
  go_enter Tryz.func70, Tryz.ntmps70
  go_wp2
  refine bodyPost_ret (v := .tuple #[.pointer none, .int .i64 0, .int .i64 1]) (by simp [results, Tryz.results70, go_sem]) rfl (HP.out _ rfl)
 ·by_cases h2 : wk < 1
  ·clear hb
   go_enter Tryz.func70, Tryz.ntmps70
   go_wp2
   refine bodyPost_ret (v := .tuple #[.pointer none, .int .i64 0, .int .i64 1]) (by simp [results, Tryz.results70, go_sem]) rfl (HP.out _ rfl)
  ·by_cases h3 : 4 < wk
   ·clear hb
    go_enter Tryz.func70, Tryz.ntmps70
    go_wp2
    refine bodyPost_ret (v := .tuple #[.pointer none, .int .i64 0, .int .i64 1]) (by simp [results, Tryz.results70, go_sem]) rfl (HP.out _ rfl)
   ·by_cases h4 : qu < 1
    ·clear hb
     go_enter Tryz.func70, Tryz.ntmps70
     go_wp2
     refine bodyPost_ret (v := .tuple #[.pointer none, .int .i64 0, .int .i64 1]) (by simp [results, Tryz.results70, go_sem]) rfl (HP.out _ rfl)
    ·have h5 : 6 < qu := by simp [h1, h2, h3, h4] at hb; omega
     clear hb
     go_enter Tryz.func70, Tryz.ntmps70
     go_wp2
     refine bodyPost_ret (v := .tuple #[.pointer none, .int .i64 0, .int .i64 1]) (by simp [results, Tryz.results70, go_sem]) rfl (HP.out _ rfl)
theorem Tryz.infoInt : (Tryz.prog.info? 3).map (fun i => (i.zero, i.size, i.bytes)) = some (some (.int .i64 0), 1, 8) := by kernel_rfl
theorem Tryz.infoRule : (Tryz.prog.info? 163).map (fun i => (i.zero, i.size, i.bytes)) = some (some (.agg #[.string { data := #[] }, .string { data := #[] }]), 2, 32) := by kernel_rfl
theorem info_rule : ∃ i, Tryz.prog.info? 163 = some i /\ i.zero = some (.agg #[.string { data := #[] }, .string { data := #[] }]) /\ i.size = 2 /\ i.bytes = 32 := by
 obtain ⟨i, hi, hzz⟩ := Option.map_eq_some_iff.1 Tryz.infoRule
 simp only [Prod.mk.injEq] at hzz
 exact ⟨i, hi, hzz.1, hzz.2.1, hzz.2.2⟩
theorem app_rule (w : World) (base : Nat) (v : Value) (n : Nat) (xs : List Value) (c0 c1 : ByteArray) (hown : w.ownsRow base 163 2 v n xs) (hb : base <= w.heap.size) (hl : n <= 100000) :
  ∃ v' w', (Builtin.append_ #[121, 121] 121 #[v, .slice (some ⟨w.heap.size, 0, none⟩) 1 1]).run Tryz.prog (w.alloc (.cells #[.string c0, .string c1] 163)) = .ok v' w' /\
   w'.ownsRow base 163 2 v' (n + 1) (xs ++ [.string c0, .string c1]) /\ w.grownBy w' v.ownBlock := by
 obtain ⟨i, hi, hz, hs, hby⟩ := info_rule
 have hnews : ∀ (j : Nat) (u : Value), [Value.string c0, .string c1][j]? = some u -> (w.alloc (.cells #[.string c0, .string c1] 163)).cell? ((⟨w.heap.size, 0, none⟩ : Addr).add j) = some u := by
  intro j u hj
  have e : (⟨w.heap.size, 0, none⟩ : Addr).add j = ⟨w.heap.size, j, none⟩ := by
   unfold Addr.add
   split
   ·rename_i h; rw [h]
   ·simp
  rw [e]
  exact row_cell (cs := [.string c0, .string c1]) (t := 163) (fz := (0, 0)) (by show (w.heap.push _)[w.heap.size]? = _; rw [Array.getElem?_push_size]) hj
 obtain ⟨v', w', hr, h2, h3, h4⟩ := run_append_own (P := Tryz.prog) (w.alloc (.cells #[.string c0, .string c1] 163)) base 121 121 163 i _ 2 32 Tryz.underlying121 hi hz hs hby rfl (by decide) v n xs (hown.alloc _) ⟨w.heap.size, 0, none⟩ 1 1 [.string c0, .string c1] rfl hnews
  (by intro u hu; simp at hu; rcases hu with rfl | rfl <;> rfl) (by unfold maxLen; omega) (by omega) (by simp; omega)
 exact ⟨v', w', hr, h2, grown_alloc h3⟩
structure ROInv (xs : List ByteArray) (w : World) (wk : Nat) (qu : Int) (wr : World) (k : Nat) (rv : Value) : Prop where
 own : wr.ownsRow w.heap.size 163 2 rv k (flR (ruleOfs (xs.take k)))
 gate : RgAt wr (w.heap.size + 1) ⟨rv, .slice none 0 0, 0, 0, false, qu, .slice none 0 0, .slice (some ⟨w.heap.size, 0, none⟩) wk wk⟩
 wrk : wr.heap[w.heap.size]? = some (.cells (List.replicate wk (Value.int .i64 0)).toArray 3 (0, 0))
 below : Below w.heap.size w wr
 ok : ∀ j, j < k -> faultK xs j = none
theorem made_four (wk : Nat) : madeCells #[Value.int .i64 0] wk = (List.replicate wk (Value.int .i64 0)).toArray := by
 apply Array.ext
 ·simp [madeCells]
 ·intro i h1 h2
  simp [madeCells, Nat.mod_one]
theorem alloc_row2 (w : World) (cs : List Value) (t : TypeId) : (w.alloc (.cells cs.toArray t)).heap[w.heap.size]? = some (.cells cs.toArray t (0, 0)) := by
 show (w.heap.push _)[w.heap.size]? = _
 rw [Array.getElem?_push_size]
theorem step_app_run {P : Program} {ops : Array Oper} {o : Oper} {a : Act} {w w' : World} {K : Act -> World -> Prop} {Q : Exit -> Act -> World -> Prop} {E : Prop}
  (hg : o.guard = none) (s x : Operand) (t : TypeId) (hop : o.op = Op.call { callee := Callee.builtin Builtin.append, args := #[s, x], argTypes := #[t, t] }) (v u v' : Value) (hs : a.eval s = v) (hx : a.eval x = u)
  (hr : (Builtin.append_ #[t, t] o.type #[v, u]).run P w = .ok v' w') (hK : K (a.put o.dst v') w') : if Region.wanted o (yielded ops a.tmps) = true then Oper.wp P o a w K Q else E := by
 have hw : Region.wanted o (yielded ops a.tmps) = true := by simp [Region.wanted, hg]
 rw [if_pos hw]
 unfold Oper.wp
 simp [execOp, hop, resolve, invoke, builtin, hs, hx, hr, Result.andThen]
 exact hK
theorem faultK_two {xs : List ByteArray} {k : Nat} {x : ByteArray} (h : xs[k]? = some x) (hr : readS x = false) : faultK xs k = some 2 := by unfold faultK; rw [h]; simp [hr]
theorem faultK_three {xs : List ByteArray} {k j : Nat} {x y : ByteArray} (h : xs[k]? = some x) (hr : readS x = true) (hj : j < k) (hy : xs[j]? = some y) (he : ((readOf y).toList == (readOf x).toList) = true) : faultK xs k = some 3 := by
 unfold faultK; rw [h]
 have : (xs.take k).any (fun x' => (readOf x').toList == (readOf x).toList) = true := by
  rw [List.any_eq_true]
  exact ⟨y, List.mem_of_getElem? (by rw [List.getElem?_take_of_lt hj]; exact hy), he⟩
 simp [hr, this]
theorem faultK_none {xs : List ByteArray} {k : Nat} {x : ByteArray} (h : xs[k]? = some x) (hr : readS x = true) (hn : ∀ j y, j < k -> xs[j]? = some y -> ((readOf y).toList == (readOf x).toList) = false) : faultK xs k = none := by
 unfold faultK; rw [h]
 have : (xs.take k).any (fun x' => (readOf x').toList == (readOf x).toList) = false := by
  rw [List.any_eq_false]
  intro y hy
  obtain ⟨j, hj⟩ := List.mem_iff_getElem?.1 hy
  have hjk : j < k := by
   have := (List.getElem?_eq_some_iff.1 hj).1
   rw [List.length_take] at this; omega
  rw [List.getElem?_take_of_lt hjk] at hj
  simp [hn j y hjk hj]
 simp [hr, this]
theorem flR_get {rs : List (ByteArray × ByteArray)} {j : Nat} {x : ByteArray × ByteArray} (h : rs[j]? = some x) : (flR rs)[j * 2]? = some (.string x.1) /\ (flR rs)[j * 2 + 1]? = some (.string x.2) := by
 induction rs generalizing j with
 | nil => simp at h
 | cons r rs ih =>
  unfold flR
  rw [List.flatMap_cons]
  cases j with
  | zero => simp at h; subst h; exact ⟨rfl, rfl⟩
  | succ j =>
   obtain ⟨h1, h2⟩ := ih (j := j) (by simpa using h)
   rw [show (j + 1) * 2 = j * 2 + 2 by omega, show j * 2 + 2 + 1 = j * 2 + 1 + 2 by omega]
   exact ⟨h1, h2⟩
theorem owns_rules {w : World} {base : Nat} {v : Value} {rs : List (ByteArray × ByteArray)} (h : w.ownsRow base 163 2 v rs.length (flR rs)) : RulesAt w v rs := by
 rcases h.2 with ⟨hv, hn⟩ | ⟨g, cap, cur, hv, hg, hh, -, -, -, ht⟩
 ·exact Or.inl ⟨hv, List.eq_nil_of_length_eq_zero hn⟩
 ·refine Or.inr ⟨g, cap, hv, fun i x hx => ?_⟩
  have hi := (List.getElem?_eq_some_iff.1 hx).1
  obtain ⟨h1, h2⟩ := flR_get hx
  have key : ∀ j u, j < rs.length * 2 -> (flR rs)[j]? = some u -> w.cell? ⟨g, j, none⟩ = some u := fun j u hj hu => by
   rw [← ht, List.getElem?_take_of_lt hj] at hu
   simp only [World.cell?, hh]
   simpa using hu
  exact ⟨key _ _ (by omega) h1, key _ _ (by omega) h2⟩
theorem ROInv.start (xs : List ByteArray) (w : World) (wk : Nat) (qu : Int) : ROInv xs w wk qu ((w.alloc (.cells (madeCells #[Value.int .i64 0] wk) 3)).alloc (.cells #[.slice none 0 0, .slice none 0 0, .int .i64 0, .int .i64 0, .bool false, .int .i64 qu, .slice none 0 0, .slice (some ⟨w.heap.size, 0, none⟩) wk wk] 124)) 0 (.slice none 0 0) := by
 rw [made_four wk]
 refine ⟨World.ownsRow_nil _ _ _ _, ?_, ?_, ((Below.refl _ _).alloc (Nat.le_refl _) _).alloc (by simp) _, fun j hj => by omega⟩
 ·unfold RgAt
  show ((w.heap.push _).push _)[w.heap.size + 1]? = _
  have e : w.heap.size + 1 = (w.heap.push (Obj.cells (List.replicate wk (Value.int .i64 0)).toArray 3)).size := by simp
  rw [e, Array.getElem?_push_size]; rfl
 ·rw [Below.heap_alloc _ _ _ (by simp)]
  show (w.heap.push _)[w.heap.size]? = _
  rw [Array.getElem?_push_size]
theorem owns_lt {w : World} {base : Nat} {e : TypeId} {size n : Nat} {v : Value} {xs : List Value} (h : w.ownsRow base e size v n xs) : ∀ g, v.ownBlock = some g -> g < w.heap.size /\ base <= g /\ ∃ cur : Array Value, w.heap[g]? = some (.cells cur e (0, 0)) := by
 intro g hg
 rcases h.2 with ⟨rfl, -⟩ | ⟨g', cap, cur, rfl, a, b, -⟩
 ·simp [Value.ownBlock] at hg
 ·simp [Value.ownBlock] at hg; subst hg; exact ⟨row_lt b, a, cur, b⟩
theorem owns_to {w w' : World} {base : Nat} {e : TypeId} {size n : Nat} {v : Value} {xs : List Value} (h : w.ownsRow base e size v n xs) (hb : ∀ g, v.ownBlock = some g -> w'.heap[g]? = w.heap[g]?) : w'.ownsRow base e size v n xs := by
 obtain ⟨h1, h2⟩ := h
 refine ⟨h1, ?_⟩
 rcases h2 with h | ⟨g, cap, cur, rfl, a, b, c⟩
 ·exact Or.inl h
 ·exact Or.inr ⟨g, cap, cur, rfl, a, (hb g rfl).trans b, c⟩
theorem ROInv.next {xs : List ByteArray} {w : World} {wk : Nat} {qu : Int} {wr : World} {k : Nat} {rv : Value} (h : ROInv xs w wk qu wr k rv) {x : ByteArray} (hx : xs[k]? = some x) (hf : faultK xs k = none) {w2 : World} (hb2 : Below wr.heap.size wr w2) (hk : k <= 12) :
  ∃ g4 c4 w4, (Builtin.append_ #[121, 121] 121 #[rv, .slice (some ⟨w2.heap.size, 0, none⟩) 1 1]).run Tryz.prog (w2.alloc (.cells #[.string (readOf x), .string (readWay x)] 163)) = .ok (.slice (some ⟨g4, 0, none⟩) (k + 1) c4) w4 /\
   w4.cell? ⟨w.heap.size + 1, 0, none⟩ = some rv /\ w4.frozen? ⟨w.heap.size + 1, 0, none⟩ = false /\ ROInv xs w wk qu (w4.setCell ⟨w.heap.size + 1, 0, none⟩ (.slice (some ⟨g4, 0, none⟩) (k + 1) c4)) (k + 1) (.slice (some ⟨g4, 0, none⟩) (k + 1) c4) := by
 have hlt := owns_lt h.own
 have hws := h.below.size
 have hown2 := owns_to (w' := w2) h.own (fun g hg => hb2.block g (hlt g hg).1)
 obtain ⟨v4, w4, hrun, hown4, hgr4⟩ := app_rule w2 w.heap.size rv k _ (readOf x) (readWay x) hown2 (Nat.le_trans hws hb2.size) (by omega)
 have hv4 : ∃ g4 c4, v4 = .slice (some ⟨g4, 0, none⟩) (k + 1) c4 := by
  rcases hown4.2 with ⟨-, h0⟩ | ⟨g, cap, cur, hv, -⟩
  ·omega
  ·exact ⟨g, cap, hv⟩
 obtain ⟨g4, c4, rfl⟩ := hv4
 have hgl : w.heap.size + 1 < wr.heap.size := row_lt h.gate
 have hwl : w.heap.size < wr.heap.size := row_lt h.wrk
 have hne : ∀ (b : Nat) (cs : List Value) (t : TypeId), wr.heap[b]? = some (.cells cs.toArray t (0, 0)) -> t ≠ 163 -> some b ≠ rv.ownBlock := by
  intro b cs t hb ht e
  obtain ⟨-, -, cur, hc⟩ := hlt b e.symm
  rw [hb] at hc
  injection hc with hc; injection hc with _ hc
  exact ht hc
 have keep : ∀ b, b < wr.heap.size -> some b ≠ rv.ownBlock -> w4.heap[b]? = wr.heap[b]? := fun b hb hn => by
  rw [hgr4.block b (Nat.lt_of_lt_of_le hb hb2.size) hn, hb2.block b hb]
 have hG4 : w4.heap[w.heap.size + 1]? = _ := (keep _ hgl (hne _ _ _ h.gate (by decide))).trans h.gate
 have hW4 : w4.heap[w.heap.size]? = _ := (keep _ hwl (hne _ _ _ h.wrk (by decide))).trans h.wrk
 have hg4 : g4 ≠ w.heap.size + 1 := by
  intro e
  obtain ⟨-, -, cur, hc⟩ := owns_lt hown4 g4 rfl
  rw [e, hG4] at hc
  injection hc with hc; injection hc with _ hc
  exact absurd hc (by decide)
 refine ⟨g4, c4, w4, hrun, row_cell hG4 (j := 0) rfl, row_frozen hG4 0, ?_, ?_, ?_, ?_, ?_⟩
 ·have e : flR (ruleOfs (xs.take (k + 1))) = flR (ruleOfs (xs.take k)) ++ [.string (readOf x), .string (readWay x)] := by
   have hkx := List.getElem?_eq_some_iff.1 hx
   obtain ⟨hk1, hk2⟩ := hkx
   rw [List.take_succ_eq_append_getElem hk1, hk2]
   unfold ruleOfs flR
   rw [List.map_append, List.flatMap_append]; rfl
  rw [e]
  exact owns_to hown4 (fun g hg => by
   simp [Value.ownBlock] at hg; subst hg
   exact Below.heap_setCell _ _ _ _ hg4)
 ·exact row_set hG4 0 _
 ·rw [Below.heap_setCell _ _ _ _ (by show w.heap.size ≠ w.heap.size + 1; omega)]; exact hW4
 ·refine Below.setCell ?_ (Nat.le_succ _) _
  refine (h.below.trans (hb2.mono hws)).grown hgr4 (Nat.le_trans hws hb2.size) (fun j hj => ?_)
  exact (hlt j hj).2.1
 ·intro j hj
  by_cases e : j = k
  ·subst e; exact hf
  ·exact h.ok j (by omega)
theorem refOpen_good (v : Value) (xs : List ByteArray) (wk : Nat) (qu : Int) (w : World) (h : StrsAt w v xs) (hn : xs.length <= 12) (hsz : ∀ x ∈ xs, x.size <= maxLen) (h2 : 1 <= wk) (h3 : wk <= 4) (h4 : 1 <= qu) (h5 : qu <= 6) :
  Calls Tryz.prog 70 #[v, .int .i64 wk, .int .i64 qu] w (ROPost xs wk qu w) := by
 have hmk := run_make_row' (P := Tryz.prog) 25 3 (.int .i64 0) 8 Tryz.underlying25 Tryz.infoInt rfl .i64 .i64 wk (by omega) (by omega)
 have HA : Hid (argsBad xs.length wk qu = false) := by show _ = _; unfold argsBad; simp; omega
 rcases h with ⟨rfl, rfl⟩ | ⟨b, off, cap, rfl, hc⟩
 ·have t2 : decide ((wk : Int) < 1) = false := by simp; omega
  have t3 : decide (4 < (wk : Int)) = false := by simp; omega
  have t4 : decide (qu < 1) = false := by simp; omega
  have t5 : decide (6 < qu) = false := by simp; omega
  have HST : Hid (ROInv [] w wk qu _ 0 (.slice none 0 0)) := ROInv.start [] w wk qu
  go_enter Tryz.func70, Tryz.ntmps70
  go_wp2
  refine wp_loop_rounds 1 ?_
  rw [rounds_succ]
  go_wp2
  refine bodyPost_ret (v := .tuple #[.pointer (some ⟨w.heap.size + 1, 0, none⟩), .int .i64 0, .int .i64 0]) (by simp [results, Tryz.results70, go_sem]) rfl ⟨HST.out.below, Or.inr ⟨HA.out, Or.inr ⟨openErr_none fun j hj => absurd hj (Nat.not_lt_zero j), w.heap.size + 1, _, w.heap.size, wk, rfl, Nat.le_succ _, HST.out.gate, World.ownsRow_nil _ _ _ _, rfl, Nat.le_refl _, HST.out.wrk⟩⟩⟩
 ·obtain ⟨n, hx⟩ : ∃ n, xs.length = n := ⟨_, rfl⟩
  have HX : Hid (xs.length = n) := hx
  have hbw : ∀ k x, xs[k]? = some x -> b < w.heap.size := fun k x hk => cell_lt (hc k x hk)
  rw [hx] at hn ⊢
  have t1 : decide (12 < (n : Int)) = false := by simp; omega
  have t2 : decide ((wk : Int) < 1) = false := by simp; omega
  have t3 : decide (4 < (wk : Int)) = false := by simp; omega
  have t4 : decide (qu < 1) = false := by simp; omega
  have t5 : decide (6 < qu) = false := by simp; omega
  have HST := ROInv.start xs w wk qu
  go_enter Tryz.func70, Tryz.ntmps70
  go_wp2
  clear t1 t2 t3 t4 t5
  go_loopw [10] (fun i wr => ∃ (k : Nat) (rv : Value), k <= n /\ i = .int .i64 k /\ ROInv xs w wk qu wr k rv) (fun i _ => n - (intOf i).toNat)
  case atStart => exact ⟨0, _, Nat.zero_le _, rfl, HST⟩
  case round =>
   obtain ⟨k, rv, hk, rfl, hI⟩ := hrel
   clear HST
   by_cases hlt : k < n
   ·have hkx : k < xs.length := by have := HX.out; omega
    obtain ⟨x, hx⟩ : ∃ x, xs[k] = x := ⟨_, rfl⟩
    have hkk : xs[k]? = some x := by rw [List.getElem?_eq_getElem hkx, hx]
    have hck : wr.cell? ⟨b, off + k, none⟩ = some (.string x) := by rw [← hc k x hkk]; exact hI.below.cell (hbw k x hkk)
    have hxs : x.size <= maxLen := hsz x (by rw [← hx]; exact List.getElem_mem hkx)
    have HRD : Hid (∀ w1, Calls Tryz.prog 116 #[.string x] w1 fun e w' => ∃ A B, e = .returned (.tuple #[.agg #[.string A, .string B], .bool (readS x)]) /\ (readS x = true -> A = readOf x /\ B = readWay x) /\ Below w1.heap.size w1 w') := fun w1 => read_any x w1 hxs
    have hg0 : wr.cell? ⟨w.heap.size + 1, 0, none⟩ = some rv := row_cell hI.gate rfl
    cases hr : readS x
    ·rw [hr] at HRD
     go_wp2_with (go_at_call 116; refine (HRD.out _).mono ?_; rintro e w1 ⟨A, B, rfl, -, hb1⟩)
     refine bodyPost_ret (v := .tuple #[.pointer none, .int .i64 k, .int .i64 2]) (by simp [results, Tryz.results70, go_sem]) rfl ⟨(hI.below.trans (hb1.mono hI.below.size)).alloc (Nat.le_trans hI.below.size hb1.size) _, Or.inr ⟨HA.out, Or.inl ⟨k, 2, openErr_at hI.ok hkx (faultK_two hkk hr), rfl⟩⟩⟩
    ·rw [hr] at HRD
     have HR : Hid (readS x = true) := hr
     have HI : Hid (ROInv xs w wk qu wr k rv) := hI
     have HKX : Hid (k < xs.length /\ xs[k]? = some x) := ⟨hkx, hkk⟩
     clear hr hkx hkk hx hxs
     rcases hI.own.2 with ⟨rfl, rfl⟩ | ⟨g, cp, cur, rfl, hgb, hgg, hnc, -, -, -⟩
     ·clear hI
      rw [Nat.add_zero] at hck
      go_wp2_with (go_at_call 116; refine (HRD.out _).mono ?_; rintro e w1 ⟨A, B, rfl, hAB, hb1⟩; obtain ⟨rfl, rfl⟩ := hAB rfl)
      have hrow := alloc_row2 w1 [.string (readOf x), .string (readWay x)] 163
      have hb2 : Below wr.heap.size wr (w1.alloc (.cells #[.string (readOf x), .string (readWay x)] 163)) := hb1.alloc hb1.size _
      generalize w1.alloc (.cells #[.string (readOf x), .string (readWay x)] 163) = w2 at *
      have hr0 := row_cell hrow (j := 0) rfl
      have hr1 := row_cell hrow (j := 1) rfl
      have hG : RgAt w2 (w.heap.size + 1) _ := rg_below HI.out.gate hb2
      have hg2 := row_cell hG (j := 0) rfl
      have hg3 := fun o => (World.cell?_of_block (a := ⟨w.heap.size + 1, 0, none⟩) (Below.heap_alloc w2 o (w.heap.size + 1) (row_lt hG))).trans hg2
      have hf2 := row_frozen hG 0
      refine wp_loop_rounds 1 ?_
      rw [rounds_succ]
      go_wp2
      obtain ⟨g4, c4, w4, hrun, hg4, hf4, hI4⟩ := HI.out.next HKX.out.2 (faultK_none HKX.out.2 HR.out (fun j y hj => by omega)) (w2 := w2.drew) hb2.drew (by omega)
      have HI4 : Hid (ROInv xs w wk qu _ (0 + 1) (.slice (some ⟨g4, 0, none⟩) (0 + 1) c4)) := hI4
      clear hI4
      go_region_law (refine step_app_run rfl (.tmp 76) (.tmp 78) 121 rfl _ _ _ (by simp [Act.eval]) (by simp [Act.eval]) hrun ?_)
      all_goals go_wp2
      all_goals exact ⟨⟨0 + 1, _, by omega, by go_num, HI4.out⟩, by simp [intOf]; omega⟩
     ·have HCUR := owns_rules (rs := ruleOfs (xs.take k)) (by have := hI.own; rwa [show (ruleOfs (xs.take k)).length = k from by unfold ruleOfs; rw [List.length_map, List.length_take]; have := HKX.out.1; omega])
      clear hI
      have HL : Hid ((ruleOfs (xs.take k)).length = k) := by show _ = _; unfold ruleOfs; rw [List.length_map, List.length_take]; have := HKX.out.1; omega
      go_wp2_with (go_at_call 116; refine (HRD.out _).mono ?_; rintro e w1 ⟨A, B, rfl, hAB, hb1⟩; obtain ⟨rfl, rfl⟩ := hAB rfl)
      have hrow := alloc_row2 w1 [.string (readOf x), .string (readWay x)] 163
      have hb2 : Below wr.heap.size wr (w1.alloc (.cells #[.string (readOf x), .string (readWay x)] 163)) := hb1.alloc hb1.size _
      generalize w1.alloc (.cells #[.string (readOf x), .string (readWay x)] 163) = w2 at *
      have hr0 := row_cell hrow (j := 0) rfl
      have hr1 := row_cell hrow (j := 1) rfl
      have hG : RgAt w2 (w.heap.size + 1) _ := rg_below HI.out.gate hb2
      have hg2 := row_cell hG (j := 0) rfl
      have hg3 := fun o => (World.cell?_of_block (a := ⟨w.heap.size + 1, 0, none⟩) (Below.heap_alloc w2 o (w.heap.size + 1) (row_lt hG))).trans hg2
      have hf2 := row_frozen hG 0
      have HRC : Hid (∀ j y, j < k -> xs[j]? = some y -> w2.cell? ⟨g, j * 2, none⟩ = some (.string (readOf y))) := by
       intro j y hj hy
       rcases HCUR with ⟨hv, -⟩ | ⟨g', cp', hv, hcc⟩
       ·cases hv
       ·simp only [Value.slice.injEq, Option.some.injEq, Addr.mk.injEq] at hv
        obtain ⟨⟨rfl, -, -⟩, -, -⟩ := hv
        have h1 := (hcc j (readOf y, readWay y) (by unfold ruleOfs; rw [List.getElem?_map, List.getElem?_take_of_lt hj, hy]; rfl)).1
        exact (hb2.cell (p := ⟨g, j * 2, none⟩) (cell_lt h1)).trans h1
      clear HCUR
      go_loopw [13] (fun i ws => ∃ (j : Nat), j <= k /\ i = .int .i64 j /\ Below w2.heap.size w2 ws /\ ∀ i' y, i' < j -> xs[i']? = some y -> ((readOf y).toList == (readOf x).toList) = false) (fun i _ => k - (intOf i).toNat)
      case atStart => exact ⟨0, Nat.zero_le _, rfl, Below.refl _ _, fun i' y h => by omega⟩
      case round =>
       obtain ⟨j, hj, rfl, hbs, hno⟩ := hrel
       have HNO : Hid (∀ i' y, i' < j -> xs[i']? = some y -> ((readOf y).toList == (readOf x).toList) = false) := hno
       clear hno
       have kr0 : wr.cell? ⟨w1.heap.size, 0, none⟩ = _ := (hbs.cell (p := ⟨w1.heap.size, 0, none⟩) (row_lt hrow)).trans hr0
       have kr1 : wr.cell? ⟨w1.heap.size, 1, none⟩ = _ := (hbs.cell (p := ⟨w1.heap.size, 1, none⟩) (row_lt hrow)).trans hr1
       have kg2 : wr.cell? ⟨w.heap.size + 1, 0, none⟩ = _ := (hbs.cell (p := ⟨w.heap.size + 1, 0, none⟩) (row_lt hG)).trans hg2
       have hGs : RgAt wr (w.heap.size + 1) _ := rg_below hG hbs
       have kg3 := fun o => (World.cell?_of_block (a := ⟨w.heap.size + 1, 0, none⟩) (Below.heap_alloc wr o (w.heap.size + 1) (row_lt hGs))).trans kg2
       have kf2 := row_frozen hGs 0
       by_cases hjk : j < k
       ·have hjx : j < xs.length := by have := HKX.out.1; omega
        obtain ⟨y, hy⟩ : ∃ y, xs[j] = y := ⟨_, rfl⟩
        have hyy : xs[j]? = some y := by rw [List.getElem?_eq_getElem hjx, hy]
        have hcy := HRC.out j y hjk hyy
        have kcy : wr.cell? ⟨g, j * 2, none⟩ = _ := (hbs.cell (p := ⟨g, j * 2, none⟩) (cell_lt hcy)).trans hcy
        cases hq : ((readOf y).toList == (readOf x).toList)
        ·have HN2 : Hid (∀ i' y, i' < j + 1 -> xs[i']? = some y -> ((readOf y).toList == (readOf x).toList) = false) := by
          intro i' y' hi hy'
          by_cases e : i' = j
          ·subst e; rw [hyy] at hy'; injection hy' with hy'; subst hy'; exact hq
          ·exact HNO.out i' y' (by omega) hy'
         clear hcy hyy
         go_wp2
         go_region
         go_wp2
         exact ⟨⟨j + 1, by omega, by go_num, hbs.drew, HN2.out⟩, by simp [intOf]; omega⟩
        ·have HF3 : Hid (openErr xs = some (k, 3)) := openErr_at HI.out.ok HKX.out.1 (faultK_three HKX.out.2 HR.out hjk hyy hq)
         clear hcy hyy
         go_wp2
         go_region
         go_wp2
         refine bodyPost_ret (v := .tuple #[.pointer none, .int .i64 k, .int .i64 3]) (by simp [results, Tryz.results70, go_sem]) rfl ⟨(HI.out.below.trans ((hb2.trans (hbs.mono hb2.size)).mono HI.out.below.size)).drew, Or.inr ⟨HA.out, Or.inl ⟨k, 3, HF3.out, rfl⟩⟩⟩
       ·obtain rfl : j = k := by omega
        obtain ⟨g4, c4, w4, hrun, hg4, hf4, hI4⟩ := HI.out.next HKX.out.2 (faultK_none HKX.out.2 HR.out (fun i y hi hy => HNO.out i y hi hy)) (w2 := wr.drew) (hb2.trans (hbs.mono hb2.size)).drew (by omega)
        have HI4 : Hid (ROInv xs w wk qu _ (j + 1) (.slice (some ⟨g4, 0, none⟩) (j + 1) c4)) := hI4
        clear hI4
        go_wp2
        go_region_law (refine step_app_run rfl (.tmp 76) (.tmp 78) 121 rfl _ _ _ (by simp [Act.eval]) (by simp [Act.eval]) hrun ?_)
        all_goals go_wp2
        all_goals exact ⟨⟨j + 1, _, by omega, by go_num, HI4.out⟩, by simp [intOf]; omega⟩
   ·obtain rfl : k = n := by omega
    go_wp2
    refine bodyPost_ret (v := .tuple #[.pointer (some ⟨w.heap.size + 1, 0, none⟩), .int .i64 0, .int .i64 0]) (by simp [results, Tryz.results70, go_sem]) rfl ⟨hI.below, Or.inr ⟨HA.out, Or.inr ⟨openErr_none fun j hj => hI.ok j (by have := HX.out; omega), w.heap.size + 1, rv, w.heap.size, wk, rfl, Nat.le_succ _, hI.gate, ?_, rfl, Nat.le_refl _, hI.wrk⟩⟩⟩
    have ho := hI.own
    rw [List.take_of_length_le (by have := HX.out; omega)] at ho
    have e : (ruleOfs xs).length = k := by unfold ruleOfs; rw [List.length_map]; exact HX.out
    rw [e]; exact ho
theorem owns_below {w w' : World} {base : Nat} {e : TypeId} {size n : Nat} {v : Value} {xs : List Value} (h : w.ownsRow base e size v n xs) (hb : Below w.heap.size w w') : w'.ownsRow base e size v n xs :=
 owns_to h (fun g hg => hb.block g (owns_lt h g hg).1)
theorem owns_base {w : World} {base base' : Nat} {e : TypeId} {size n : Nat} {v : Value} {xs : List Value} (h : w.ownsRow base e size v n xs) (hb : base' <= base) : w.ownsRow base' e size v n xs := by
 obtain ⟨h1, h2⟩ := h
 refine ⟨h1, ?_⟩
 rcases h2 with h | ⟨g, cap, cur, rfl, a, b⟩
 ·exact Or.inl h
 ·exact Or.inr ⟨g, cap, cur, rfl, Nat.le_trans hb a, b⟩
theorem owns_form {w : World} {base : Nat} {e : TypeId} {size n : Nat} {v : Value} {xs : List Value} (h : w.ownsRow base e size v n xs) : ∃ x c, v = .slice x n c := by
 rcases h.2 with ⟨rfl, rfl⟩ | ⟨g, cap, cur, rfl, -⟩
 ·exact ⟨none, 0, rfl⟩
 ·exact ⟨_, cap, rfl⟩
end Go.Proofs.YtalmoiogbdahcaaGreat
