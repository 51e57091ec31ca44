import Derived.Test.YtalmoiogbdahcaaGreatYRefA
import Derived.Test.YtalmoiogbdahcaaGreatYWrdC
import Derived.Defers
namespace Go.Proofs.YtalmoiogbdahcaaGreat
set_option maxRecDepth 100000
set_option maxHeartbeats 8000000
open Go.RowKit
def opB : ByteArray := { data := #[40] }
def clB : ByteArray := { data := #[41] }
def barB : ByteArray := { data := #[124] }
def ampB : ByteArray := { data := #[38] }
def arrB : ByteArray := { data := #[45, 62] }
def plainG (q : Rd) : WayT × Rd :=
 if isThis (nameOf q.rest) then (.mk 0 noneB noneB [], q.name)
 else if preB q.name.rest arrB then (.mk 2 (nameOf q.rest) (nameOf (q.name.sees arrB).rest) [], (q.name.sees arrB).relation)
 else (.mk 1 noneB (nameOf q.rest) [], q.name)
def partsG (one : Rd -> WayT × Rd) (mark : ByteArray) : Nat -> List WayT -> Rd -> List WayT × Rd
 | 0, acc, q => (acc, q)
 | n + 1, acc, q => if preB q.rest mark then partsG one mark n (acc ++ [(one (q.sees mark)).1]) (one (q.sees mark)).2 else (acc, q)
def joinW (is : Int) : List WayT -> WayT
 | [t] => t
 | ts => .mk is noneB noneB ts
def markOf (q : Rd) : ByteArray := if preB q.rest ampB then ampB else barB
def isOf (q : Rd) : Int := if preB q.rest ampB then 4 else 3
def wayP (one : Rd -> WayT × Rd) (q : Rd) : List WayT × Rd := partsG one (markOf (one q).2) (one q).2.rest.size [(one q).1] (one q).2
def wayG (one : Rd -> WayT × Rd) (q : Rd) : WayT × Rd := (joinW (isOf (one q).2) (wayP one q).1, (wayP one q).2)
def Rd.opened (q : Rd) : Rd := { q.sees opB with opn := q.opn + 1 }
def oneF : Nat -> Rd -> WayT × Rd
 | 0, q => if preB q.rest opB then (.mk 0 noneB noneB [], (q.sees opB).fail) else plainG q
 | d + 1, q => if preB q.rest opB then ((wayG (oneF d) q.opened).1, { (wayG (oneF d) q.opened).2.must clB with opn := q.opn }) else plainG q
theorem sees_opn (q : Rd) (m : ByteArray) : (q.sees m).opn = q.opn := by unfold Rd.sees; split <;> rfl
theorem must_opn (q : Rd) (m : ByteArray) : (q.must m).opn = q.opn := by
 unfold Rd.must; split
 ·exact sees_opn q m
 ·rfl
theorem name_opn (q : Rd) : q.name.opn = q.opn := by unfold Rd.name; split <;> rfl
theorem relation_opn (q : Rd) : q.relation.opn = q.opn := by
 unfold Rd.relation; split
 ·exact name_opn q
 ·exact name_opn q
theorem plainG_opn (q : Rd) : (plainG q).2.opn = q.opn := by
 unfold plainG; split
 ·exact name_opn q
 ·split
  ·show (q.name.sees arrB).relation.opn = _; rw [relation_opn, sees_opn, name_opn]
  ·exact name_opn q
theorem partsG_opn {one : Rd -> WayT × Rd} (h : ∀ q, (one q).2.opn = q.opn) (m : ByteArray) : ∀ n acc q, (partsG one m n acc q).2.opn = q.opn := by
 intro n
 induction n with
 | zero => intro acc q; rfl
 | succ n ih => intro acc q; rw [partsG]; split
                ·rw [ih, h, sees_opn]
                ·rfl
theorem wayG_opn {one : Rd -> WayT × Rd} (h : ∀ q, (one q).2.opn = q.opn) (q : Rd) : (wayG one q).2.opn = q.opn := by
 show (wayP one q).2.opn = _; unfold wayP; rw [partsG_opn h, h]
theorem oneF_opn : ∀ d q, (oneF d q).2.opn = q.opn := by
 intro d
 cases d with
 | zero => intro q; rw [oneF]; split
           ·exact sees_opn q opB
           ·exact plainG_opn q
 | succ d => intro q; rw [oneF]; split
             ·rfl
             ·exact plainG_opn q
theorem plainG_size (q : Rd) : (plainG q).2.rest.size <= q.rest.size := by
 unfold plainG; split
 ·exact name_size q
 ·split
  ·exact Nat.le_trans (relation_size _) (Nat.le_trans (sees_size _ _) (name_size _))
  ·exact name_size q
theorem partsG_size {one : Rd -> WayT × Rd} (h : ∀ q, (one q).2.rest.size <= q.rest.size) (m : ByteArray) : ∀ n acc q, (partsG one m n acc q).2.rest.size <= q.rest.size := by
 intro n
 induction n with
 | zero => intro acc q; exact Nat.le_refl _
 | succ n ih => intro acc q; rw [partsG]; split
                ·exact Nat.le_trans (ih _ _) (Nat.le_trans (h _) (sees_size _ _))
                ·exact Nat.le_refl _
theorem wayG_size {one : Rd -> WayT × Rd} (h : ∀ q, (one q).2.rest.size <= q.rest.size) (q : Rd) : (wayG one q).2.rest.size <= q.rest.size :=
 Nat.le_trans (partsG_size h _ _ _ _) (h q)
theorem opened_size (q : Rd) : q.opened.rest.size <= q.rest.size := sees_size q opB
theorem oneF_size : ∀ d q, (oneF d q).2.rest.size <= q.rest.size := by
 intro d
 induction d with
 | zero => intro q; rw [oneF]; split
           ·exact Nat.zero_le _
           ·exact plainG_size q
 | succ d ih => intro q; rw [oneF]; split
                ·exact Nat.le_trans (must_size _ _) (Nat.le_trans (wayG_size ih _) (opened_size q))
                ·exact plainG_size q
def fl : Value -> List Value
 | .agg a => a.toList
 | v => [v]
inductive WayAt (w : World) (In : Nat -> Prop) : WayT -> Value -> Prop
 | leaf (is : Int) (a b : ByteArray) : WayAt w In (.mk is a b []) (.agg #[.int .i64 is, .string a, .string b, .slice none 0 0])
 | node (is : Int) (ts : List WayT) (vs : List Value) (g cap : Nat) (cur : Array Value) : In g -> w.heap[g]? = some (.cells cur 106 (0, 0)) -> vs.length = ts.length -> ts.length <= 1000 ->
   cur.toList.take (ts.length * 4) = vs.flatMap fl -> (∀ (i : Nat) (t : WayT) (v : Value), ts[i]? = some t -> vs[i]? = some v -> WayAt w In t v) ->
   WayAt w In (.mk is noneB noneB ts) (.agg #[.int .i64 is, .string noneB, .string noneB, .slice (some ⟨g, 0, none⟩) ts.length cap])
theorem WayAt.move {w w' : World} {In In' : Nat -> Prop} {t : WayT} {v : Value} (h : WayAt w In t v) (hw : ∀ g, In g -> g < w.heap.size -> In' g /\ w'.heap[g]? = w.heap[g]?) : WayAt w' In' t v := by
 induction h with
 | leaf is a b => exact .leaf is a b
 | node is ts vs g cap cur h1 h2 h3 h4 h5 h6 ih =>
  obtain ⟨g1, g2⟩ := hw g h1 (row_lt h2)
  exact .node is ts vs g cap cur g1 (by rw [g2]; exact h2) h3 h4 h5 ih
theorem WayAt.agg {w : World} {In : Nat -> Prop} {t : WayT} {v : Value} (h : WayAt w In t v) : ∃ is a b x n c, v = .agg #[.int .i64 is, .string a, .string b, .slice x n c] := by
 cases h with
 | leaf is a b => exact ⟨_, _, _, _, _, _, rfl⟩
 | node is ts vs g cap cur => exact ⟨_, _, _, _, _, _, rfl⟩
def WRes (w : World) (r : Nat) (p : WayT × Rd) (e : Ending) (w' : World) : Prop :=
 ∃ v, e = .returned v /\ WayAt w' (w.heap.size <= ·) p.1 v /\ RdAt w' r p.2 /\ w.grownBy w' (some r)
def OneC (d : Nat) : Prop := ∀ (r : Nat) (q : Rd) (w : World), RdAt w r q -> q.rest.size <= 200 -> 0 <= q.opn -> q.opn + d = 5 -> Calls Tryz.prog 161 #[.pointer (some ⟨r, 0, none⟩)] w (WRes w r (oneF d q))
def WayC (d : Nat) : Prop := ∀ (r : Nat) (q : Rd) (w : World), RdAt w r q -> q.rest.size <= 200 -> 0 <= q.opn -> q.opn + d = 5 -> Calls Tryz.prog 106 #[.pointer (some ⟨r, 0, none⟩)] w (WRes w r (wayG (oneF d) q))
theorem close_d (r c : Nat) (q : Rd) (u : FrameMode) (w : World) (hRd : RdAt w r q) (hc : w.cell? ⟨c, 0, none⟩ = some (.pointer (some ⟨r, 0, none⟩))) (h1 : 0 <= q.opn) (h2 : q.opn <= 100) :
  CallsD Tryz.prog 218 #[.pointer (some ⟨c, 0, none⟩)] u w fun e u' w' => u' = u /\ (e = .returned (.tuple #[]) /\ RdAt w' r { q with opn := q.opn - 1 } /\ w.grownBy w' (some r)) := by
 obtain ⟨g0, g1, g2, f0, f1, f2⟩ := rd_cells hRd
 go_enter_d Tryz.func218, Tryz.ntmps218
 go_wp2
 go_end0
 exact ⟨rfl, rd_opn hRd _, kept_set (kept_refl _ _) _ _⟩
def brP (d : Nat) (q : Rd) : WayT × Rd := match d with
 | 0 => (.mk 0 noneB noneB [], q.fail)
 | e + 1 => ((wayG (oneF e) { q with opn := q.opn + 1 }).1, { (wayG (oneF e) { q with opn := q.opn + 1 }).2.must clB with opn := q.opn })
def BrC (d : Nat) : Prop := ∀ (r : Nat) (q : Rd) (w : World), RdAt w r q -> q.rest.size <= 200 -> 0 <= q.opn -> q.opn + d = 5 ->
 Calls Tryz.prog 196 #[.pointer (some ⟨r, 0, none⟩)] w (WRes w r (brP d q))
theorem two_kept {w : World} (r j : Nat) (u : Value) (o o' : Obj) : w.grownBy (((w.setCell ⟨r, j, none⟩ u).alloc o).alloc o') (some r) :=
 kept_trans (kept_set (kept_refl _ _) _ _) (kept_trans (kept_alloc _ _) (kept_alloc _ _))
theorem two_row {w : World} (p : Addr) (u : Value) (cs : List Value) (t : TypeId) (o : Obj) : (((w.setCell p u).alloc (.cells cs.toArray t)).alloc o).heap[w.heap.size]? = some (.cells cs.toArray t (0, 0)) := by
 have e : (w.setCell p u).heap.size = w.heap.size := by simp
 rw [Below.heap_alloc _ _ _ (by simp)]
 show ((w.setCell p u).heap.push _)[w.heap.size]? = _
 rw [← e, Array.getElem?_push_size]
theorem two_rowB {w : World} (p : Addr) (u : Value) (cs : List Value) (t : TypeId) (o : Obj) : (((w.setCell p u).alloc o).alloc (.cells cs.toArray t)).heap[w.heap.size + 1]? = some (.cells cs.toArray t (0, 0)) := by
 have e : ((w.setCell p u).alloc o).heap.size = w.heap.size + 1 := by simp
 show (((w.setCell p u).alloc o).heap.push _)[w.heap.size + 1]? = _
 rw [← e, Array.getElem?_push_size]
theorem alloc_row {w : World} {b : Nat} {o : Obj} (h : w.heap[b]? = some o) (o' : Obj) : (w.alloc o').heap[b]? = some o := by
 rw [Below.heap_alloc _ _ _ (row_lt h)]; exact h
theorem alloc_new (w : World) (cs : List Value) (t : TypeId) : (w.alloc (.cells cs.toArray t)).heap[w.heap.size]? = some (.cells cs.toArray t (0, 0)) := by
 show (w.heap.push _)[w.heap.size]? = _
 rw [Array.getElem?_push_size]
theorem kblock {W w1 : World} {r b : Nat} {o : Obj} (h : W.grownBy w1 (some r)) (hb : W.heap[b]? = some o) (hn : ¬ b = r) : w1.heap[b]? = some o := by
 rw [h.block b (row_lt hb) (by simpa using hn)]; exact hb
theorem kept4 {w wr : World} {row : Option Nat} (h : w.grownBy wr row) {b : Nat} (hb : w.heap.size <= b) (c0 c1 c2 c3 : Value) : w.grownBy ((((wr.setCell ⟨b, 0, none⟩ c0).setCell ⟨b, 1, none⟩ c1).setCell ⟨b, 2, none⟩ c2).setCell ⟨b, 3, none⟩ c3) row :=
 kept_new (kept_new (kept_new (kept_new h hb _ _) hb _ _) hb _ _) hb _ _
theorem rd4 {w : World} {r b : Nat} {q : Rd} (h : RdAt w r q) (hb : ¬ r = b) (c0 c1 c2 c3 : Value) : RdAt ((((w.setCell ⟨b, 0, none⟩ c0).setCell ⟨b, 1, none⟩ c1).setCell ⟨b, 2, none⟩ c2).setCell ⟨b, 3, none⟩ c3) r q :=
 rd_new (rd_new (rd_new (rd_new h hb _ _) hb _ _) hb _ _) hb _ _
theorem row4 {w : World} {b : Nat} {d0 d1 d2 d3 : Value} {t : TypeId} (h : w.heap[b]? = some (.cells [d0, d1, d2, d3].toArray t (0, 0))) (c0 c1 c2 c3 : Value) :
  ((((w.setCell ⟨b, 0, none⟩ c0).setCell ⟨b, 1, none⟩ c1).setCell ⟨b, 2, none⟩ c2).setCell ⟨b, 3, none⟩ c3).heap[b]? = some (.cells [c0, c1, c2, c3].toArray t (0, 0)) :=
 row_set (row_set (row_set (row_set h 0 c0) 1 c1) 2 c2) 3 c3
theorem other4 {w : World} {b g : Nat} (hb : ¬ g = b) (c0 c1 c2 c3 : Value) :
  ((((w.setCell ⟨b, 0, none⟩ c0).setCell ⟨b, 1, none⟩ c1).setCell ⟨b, 2, none⟩ c2).setCell ⟨b, 3, none⟩ c3).heap[g]? = w.heap[g]? := by
 rw [Below.heap_setCell _ _ _ _ hb, Below.heap_setCell _ _ _ _ hb, Below.heap_setCell _ _ _ _ hb, Below.heap_setCell _ _ _ _ hb]
theorem br_zero : BrC 0 := by
 intro r q w hRd hs hp ho
 unfold brP
 obtain ⟨g0, g1, g2, f0, f1, f2⟩ := rd_cells hRd
 have hrw : r < w.heap.size := row_lt hRd
 have hne : ¬ w.heap.size = r := by omega
 have ho' : q.opn = 5 := by omega
 obtain ⟨rs, o, fd⟩ := q
 dsimp only at ho' g0 g1 g2 ⊢
 subst ho'
 have hmf : ∀ (fn : Fn) (first cap : Array Value) (w : World), (Instr.makeFunc fn first cap).run Tryz.prog w = .ok (.func fn first cap) w := fun _ _ _ _ => rfl
 go_enter_defers Tryz.func196, Tryz.ntmps196
 go_wp2_with (first | (go_at_call 160; (refine (fail_any r _ _ (rd_alloc (rd_alloc (rd_opn hRd 6) _) _)).mono ?_; rintro e w1 ⟨rfl, hr1, hk1⟩; have hA := kblock hk1 (two_row _ _ [.pointer (some ⟨r, 0, none⟩)] _ _) hne; have hB := kblock hk1 (two_rowB _ _ [Value.int .i64 0, .string { data := #[] }, .string { data := #[] }, .slice none 0 0] _ _) (by omega); have hA0 := row_cell hA (j := 0) rfl; have hB0 := row_cell hB (j := 0) rfl; have hB1 := row_cell hB (j := 1) rfl; have hB2 := row_cell hB (j := 2) rfl; have hB3 := row_cell hB (j := 3) rfl; have hF0 := row_frozen hB 0; have hF1 := row_frozen hB 1; have hF2 := row_frozen hB 2; have hF3 := row_frozen hB 3; have HA : Hid (w1.heap[w.heap.size]? = _) := hA; have HB : Hid (w1.heap[w.heap.size + 1]? = _) := hB; clear hA hB)))
 have hN := kept4 (kept_trans (two_kept r 1 _ _ _) hk1) (b := w.heap.size + 1) (Nat.le_succ _) (.int .i64 0) (.string { data := #[] }) (.string { data := #[] }) (.slice none 0 0)
 have hR := rd4 hr1 (b := w.heap.size + 1) (by omega) (.int .i64 0) (.string { data := #[] }) (.string { data := #[] }) (.slice none 0 0)
 have hS := row4 HB.out (.int .i64 0) (.string { data := #[] }) (.string { data := #[] }) (.slice none 0 0)
 have hA := row_cell ((other4 (b := w.heap.size + 1) (g := w.heap.size) (by omega) (.int .i64 0) (.string { data := #[] }) (.string { data := #[] }) (.slice none 0 0)).trans HA.out) (j := 0) rfl
 refine leaves_cons (f := 218) (args := #[.pointer (some ⟨w.heap.size, 0, none⟩)]) (by simp) (by simp [go_sem]) ?_
 refine (close_d r w.heap.size _ .returning _ hR hA (show (0 : Int) <= 6 by decide) (show (6 : Int) <= 100 by decide)).mono ?_
 rintro e u' w2 ⟨rfl, rfl, hr2, hk2⟩
 have hT := kblock hk2 hS (by omega)
 have hT0 := row_cell hT (j := 0) rfl
 have hT1 := row_cell hT (j := 1) rfl
 have hT2 := row_cell hT (j := 2) rfl
 have hT3 := row_cell hT (j := 3) rfl
 exact ⟨_, by simp [results, Tryz.results196, go_sem, hT0, hT1, hT2, hT3]; rfl, _, rfl, .leaf 0 noneB noneB, hr2, kept_trans hN hk2⟩
theorem br_succ (d : Nat) (HW : Hid (WayC d)) : BrC (d + 1) := by
 intro r q w hRd hs hp ho
 unfold brP
 obtain ⟨g0, g1, g2, f0, f1, f2⟩ := rd_cells hRd
 have hrw : r < w.heap.size := row_lt hRd
 have hne : ¬ w.heap.size = r := by omega
 obtain ⟨rs, o, fd⟩ := q
 dsimp only at ho hp g0 g1 g2 hs ⊢
 have ho1 : o <= 4 := by omega
 have HO : Hid (o + 1 + (d : Int) = 5) := by show _ = _; omega
 clear ho
 have hgt : decide (o + 1 > 5) = false := by simp; omega
 have hmf : ∀ (fn : Fn) (first cap : Array Value) (w : World), (Instr.makeFunc fn first cap).run Tryz.prog w = .ok (.func fn first cap) w := fun _ _ _ _ => rfl
 have HOP : Hid ((wayG (oneF d) ⟨rs, o + 1, fd⟩).2.opn = o + 1) := wayG_opn (oneF_opn d) ⟨rs, o + 1, fd⟩
 have HC : Hid (∀ w', RdAt w' r ⟨rs, o + 1, fd⟩ -> Calls Tryz.prog 106 #[.pointer (some ⟨r, 0, none⟩)] w' (WRes w' r (wayG (oneF d) ⟨rs, o + 1, fd⟩))) := fun w' h => HW.out r _ w' h hs (by show 0 <= o + 1; omega) HO.out
 generalize wayG (oneF d) ⟨rs, o + 1, fd⟩ = p at *
 obtain ⟨tr, p⟩ := p
 go_enter_defers Tryz.func196, Tryz.ntmps196
 go_wp2_with (first | (go_at_call 106; (refine (HC.out _ (rd_alloc (rd_alloc (rd_opn hRd (o + 1)) _) _)).mono ?_; rintro e w1 ⟨v, rfl, hv1, hr1, hk1⟩; obtain ⟨vi, va, vb, vx, vn, vc, rfl⟩ := hv1.agg; clear HC; have hA := kblock hk1 (two_row _ _ [.pointer (some ⟨r, 0, none⟩)] _ _) hne; have hB := kblock hk1 (two_rowB _ _ [Value.int .i64 0, .string { data := #[] }, .string { data := #[] }, .slice none 0 0] _ _) (by omega); have HA : Hid (w1.heap[w.heap.size]? = _) := hA; have HB : Hid (w1.heap[w.heap.size + 1]? = _) := hB; have hA0 := fun o => row_cell (alloc_row hA o) (j := 0) rfl; have hL2 : w.heap.size + 1 < w1.heap.size := row_lt hB; clear hA hB)) | (go_at_call 105; (refine (must_any r p clB _ (rd_alloc hr1 _)).mono ?_; rintro e w2 ⟨rfl, hr2, hk2⟩; have hA := kblock hk2 (alloc_row HA.out _) hne; have hB := kblock hk2 (alloc_row HB.out _) (by omega); have hV := kblock hk2 (alloc_new w1 [.int .i64 vi, .string va, .string vb, .slice vx vn vc] _) (by omega); have hV0 := row_cell hV (j := 0) rfl; have hV1 := row_cell hV (j := 1) rfl; have hV2 := row_cell hV (j := 2) rfl; have hV3 := row_cell hV (j := 3) rfl; have hB0 := row_cell hB (j := 0) rfl; have hB1 := row_cell hB (j := 1) rfl; have hB2 := row_cell hB (j := 2) rfl; have hB3 := row_cell hB (j := 3) rfl; have hF0 := row_frozen hB 0; have hF1 := row_frozen hB 1; have hF2 := row_frozen hB 2; have hF3 := row_frozen hB 3; have HA2 : Hid (w2.heap[w.heap.size]? = _) := hA; have HB2 : Hid (w2.heap[w.heap.size + 1]? = _) := hB; clear hA hB hV hA0)))
 have hN := kept4 (kept_trans (kept_trans (two_kept r 1 _ _ _) hk1) (kept_trans (kept_alloc _ _) hk2)) (b := w.heap.size + 1) (Nat.le_succ _) (.int .i64 vi) (.string va) (.string vb) (.slice vx vn vc)
 have hR := rd4 hr2 (b := w.heap.size + 1) (by omega) (.int .i64 vi) (.string va) (.string vb) (.slice vx vn vc)
 have hS := row4 HB2.out (.int .i64 vi) (.string va) (.string vb) (.slice vx vn vc)
 have hA := row_cell ((other4 (b := w.heap.size + 1) (g := w.heap.size) (by omega) (.int .i64 vi) (.string va) (.string vb) (.slice vx vn vc)).trans HA2.out) (j := 0) rfl
 have hM : (p.must clB).opn = o + 1 := by rw [must_opn]; exact HOP.out
 refine leaves_cons (f := 218) (args := #[.pointer (some ⟨w.heap.size, 0, none⟩)]) (by simp) (by simp [go_sem]) ?_
 refine (close_d r w.heap.size _ .returning _ hR hA (by rw [hM]; omega) (by rw [hM]; omega)).mono ?_
 rintro e u' w3 ⟨rfl, rfl, hr3, hk3⟩
 have hT := kblock hk3 hS (by omega)
 have hT0 := row_cell hT (j := 0) rfl
 have hT1 := row_cell hT (j := 1) rfl
 have hT2 := row_cell hT (j := 2) rfl
 have hT3 := row_cell hT (j := 3) rfl
 refine ⟨.agg #[.int .i64 vi, .string va, .string vb, .slice vx vn vc], by simp [results, Tryz.results196, go_sem, hT0, hT1, hT2, hT3], _, rfl, ?_, ?_, kept_trans hN hk3⟩
 ·refine hv1.move fun g hg hlt => ?_
  have hg' : w.heap.size + 2 <= g := by simpa using hg
  refine ⟨by show w.heap.size <= g; omega, ?_⟩
  have h2 : w2.heap[g]? = w1.heap[g]? := by
   rw [hk2.block g (by simp; omega) (by simp; omega), Below.heap_alloc _ _ _ hlt]
  have hlt2 : g < w2.heap.size := Nat.lt_of_lt_of_le (by simp; omega) hk2.size
  rw [hk3.block g (by simpa [World.setCell] using hlt2) (by simp; omega), other4 (by omega), h2]
 ·have e : (p.must clB).opn - 1 = o := by rw [hM]; omega
  rw [e] at hr3; exact hr3
theorem br_any (d : Nat) (h : ∀ e, d = e + 1 -> WayC e) : BrC d := by
 cases d with
 | zero => exact br_zero
 | succ d => exact br_succ d (h d rfl)
theorem one_any (d : Nat) (HB : Hid (BrC d)) : OneC d := by
 intro r q w hRd hs hp ho
 have hM : q.rest.size <= maxLen := by unfold maxLen; omega
 have hrw : r < w.heap.size := row_lt hRd
 have HSE := fun w1 h => sees_any r q opB w1 h
 have hne : ¬ w.heap.size = r := by omega
 cases hb : preB q.rest opB
 ·have e : oneF d q = plainG q := by cases d <;> rw [oneF, hb] <;> rfl
  rw [e]
  clear e HB ho hp
  have e1 : q.sees opB = q := by unfold Rd.sees; rw [hb]; rfl
  rw [hb, e1] at HSE
  clear hb e1
  have hna := fun w1 h => nameRd_any r q w1 h hM
  unfold plainG isThis
  have sN := name_size q
  have SN : Hid (q.name.rest.size <= 200) := by show _ <= _; omega
  clear sN
  generalize nameOf q.rest = nm at *
  generalize q.name = q1 at *
  cases ht : (nm.toList == [116, 104, 105, 115])
  ·have HS2 := fun w1 h => sees_any r q1 arrB w1 h
   cases h2 : preB q1.rest arrB
   ·have e1 : q1.sees arrB = q1 := by unfold Rd.sees; rw [h2]; rfl
    rw [h2, e1] at HS2
    go_enter Tryz.func161, Tryz.ntmps161
    go_wp2_with (first | (go_at_call 89; refine (HSE _ (rd_alloc hRd _)).mono ?_; clear HSE; rintro e w1 ⟨rfl, hr1, hk1⟩) | (go_at_call 141; refine (hna _ hr1).mono ?_; clear hna; rintro e w2 ⟨rfl, hr2, hk2⟩) | (go_at_call 89; refine (HS2 _ hr2).mono ?_; clear HS2; rintro e w3 ⟨rfl, hr3, hk3⟩; have hkk := kept_trans (kept_trans hk1 hk2) hk3; have hcc := fun o => (kcell hkk).1 w.heap.size o (by simp) hne; have hff := fun o => (kcell hkk).2 w.heap.size o (by simp) hne))
    refine bodyPost_ret (v := .agg #[.int .i64 1, .string { data := #[] }, .string nm, .slice none 0 0]) (by simp [results, Tryz.results161, go_sem, hcc]) rfl ⟨_, rfl, .leaf _ _ _, rd4 hr3 (Ne.symm hne) _ _ _ _, kept4 (kept_trans (kept_alloc _ _) hkk) (Nat.le_refl _) _ _ _ _⟩
   ·rw [h2] at HS2
    have sS := sees_size q1 arrB
    have SS : Hid ((q1.sees arrB).rest.size <= maxLen) := by have := SN.out; show _ <= _; unfold maxLen; omega
    clear sS
    generalize q1.sees arrB = q2 at *
    go_enter Tryz.func161, Tryz.ntmps161
    go_wp2_with (first | (go_at_call 89; refine (HSE _ (rd_alloc hRd _)).mono ?_; clear HSE; rintro e w1 ⟨rfl, hr1, hk1⟩) | (go_at_call 141; refine (hna _ hr1).mono ?_; clear hna; rintro e w2 ⟨rfl, hr2, hk2⟩) | (go_at_call 89; refine (HS2 _ hr2).mono ?_; clear HS2; rintro e w3 ⟨rfl, hr3, hk3⟩) | (go_at_call 159; refine (relationRd_any r q2 _ hr3 SS.out).mono ?_; rintro e w4 ⟨rfl, hr4, hk4⟩; have hkk := kept_trans (kept_trans hk1 hk2) (kept_trans hk3 hk4); have hcc := fun o => (kcell hkk).1 w.heap.size o (by simp) hne; have hff := fun o => (kcell hkk).2 w.heap.size o (by simp) hne))
    refine bodyPost_ret (v := .agg #[.int .i64 2, .string nm, .string (nameOf q2.rest), .slice none 0 0]) (by simp [results, Tryz.results161, go_sem, hcc]) rfl ⟨_, rfl, .leaf _ _ _, rd4 hr4 (Ne.symm hne) _ _ _ _, kept4 (kept_trans (kept_alloc _ _) hkk) (Nat.le_refl _) _ _ _ _⟩
  ·go_enter Tryz.func161, Tryz.ntmps161
   go_wp2_with (first | (go_at_call 89; refine (HSE _ (rd_alloc hRd _)).mono ?_; clear HSE; rintro e w1 ⟨rfl, hr1, hk1⟩) | (go_at_call 141; refine (hna _ hr1).mono ?_; clear hna; rintro e w2 ⟨rfl, hr2, hk2⟩; have hkk := kept_trans hk1 hk2; have hcc := fun o => (kcell hkk).1 w.heap.size o (by simp) hne; have hff := fun o => (kcell hkk).2 w.heap.size o (by simp) hne))
   refine bodyPost_ret (v := .agg #[.int .i64 0, .string { data := #[] }, .string { data := #[] }, .slice none 0 0]) (by simp [results, Tryz.results161, go_sem, hcc]) rfl ⟨_, rfl, .leaf _ _ _, rd4 hr2 (Ne.symm hne) _ _ _ _, kept4 (kept_trans (kept_alloc _ _) hkk) (Nat.le_refl _) _ _ _ _⟩
 ·rw [hb] at HSE
  have sS := sees_size q opB
  have HBR := fun w1 h => HB.out r (q.sees opB) w1 h (by omega) (by rw [sees_opn]; exact hp) (by rw [sees_opn]; exact ho)
  have e : oneF d q = brP d (q.sees opB) := by
   cases d with
   | zero => rw [oneF, hb]; rfl
   | succ d => rw [oneF, hb]; unfold brP; dsimp only; rw [sees_opn]; rfl
  rw [e]
  clear e sS hp ho hs hM
  generalize brP d (q.sees opB) = p at *
  go_enter Tryz.func161, Tryz.ntmps161
  go_wp2_with (first | (go_at_call 89; refine (HSE _ (rd_alloc hRd _)).mono ?_; clear HSE; rintro e w1 ⟨rfl, hr1, hk1⟩) | (go_at_call 196; refine (HBR _ hr1).mono ?_; clear HBR; rintro e w2 ⟨v, rfl, hv2, hr2, hk2⟩; obtain ⟨vi, va, vb, vx, vn, vc, rfl⟩ := hv2.agg; have hkk := kept_trans hk1 hk2; have hcc := fun o => (kcell hkk).1 w.heap.size o (by simp) hne; have hff := fun o => (kcell hkk).2 w.heap.size o (by simp) hne))
  refine bodyPost_ret (v := .agg #[.int .i64 vi, .string va, .string vb, .slice vx vn vc]) (by simp [results, Tryz.results161, go_sem, hcc]) rfl ⟨_, rfl, ?_, rd4 hr2 (Ne.symm hne) _ _ _ _, kept4 (kept_trans (kept_alloc _ _) hkk) (Nat.le_refl _) _ _ _ _⟩
  refine hv2.move fun g hg _ => ?_
  have hg' : w.heap.size + 1 <= g := Nat.le_trans (by simp) (Nat.le_trans hk1.size hg)
  exact ⟨Nat.le_of_succ_le hg', other4 (by omega) _ _ _ _⟩
end Go.Proofs.YtalmoiogbdahcaaGreat
