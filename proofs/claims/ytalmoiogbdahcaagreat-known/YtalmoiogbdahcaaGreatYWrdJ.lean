import Derived.Test.YtalmoiogbdahcaaGreatYWrdG
import Derived.Test.YtalmoiogbdahcaaGreatYRefE
namespace Go.Proofs.YtalmoiogbdahcaaGreat
set_option maxRecDepth 100000
set_option maxHeartbeats 8000000
open Go.RowKit
theorem Tryz.infoWay : (Tryz.prog.info? 106).map (fun i => (i.zero, i.size, i.bytes)) = some (some (.agg #[.int .i64 0, .string { data := #[] }, .string { data := #[] }, .slice none 0 0]), 4, 64) := by kernel_rfl
theorem info_way : ∃ i, Tryz.prog.info? 106 = some i /\ i.zero = some (.agg #[.int .i64 0, .string { data := #[] }, .string { data := #[] }, .slice none 0 0]) /\ i.size = 4 /\ i.bytes = 64 := by
 obtain ⟨i, hi, hzz⟩ := Option.map_eq_some_iff.1 Tryz.infoWay
 simp only [Prod.mk.injEq] at hzz
 exact ⟨i, hi, hzz.1, hzz.2.1, hzz.2.2⟩
theorem addr_at (b k : Nat) : (⟨b, 0, none⟩ : Addr).add k = ⟨b, k, none⟩ := by
 unfold Addr.add
 split
 ·rename_i h; rw [h]
 ·simp
theorem app_way (w : World) (base : Nat) (g cap : Nat) (n : Nat) (xs : List Value) (c0 c1 c2 c3 : Value) (h1 : ∀ u ∈ [c0, c1, c2, c3], u.oneCell' = true) (hown : w.ownsRow base 106 4 (.slice (some ⟨g, 0, none⟩) n cap) n xs) (hb : base <= w.heap.size) (hl : n <= 100000) :
  ∃ g' cap' w', (Builtin.append_ #[104, 104] 104 #[.slice (some ⟨g, 0, none⟩) n cap, .slice (some ⟨w.heap.size, 0, none⟩) 1 1]).run Tryz.prog (w.alloc (.cells #[c0, c1, c2, c3] 106)) = .ok (.slice (some ⟨g', 0, none⟩) (n + 1) cap') w' /\
   w'.ownsRow base 106 4 (.slice (some ⟨g', 0, none⟩) (n + 1) cap') (n + 1) (xs ++ [c0, c1, c2, c3]) /\ w.grownBy w' (some g) /\ (g' = g \/ w.heap.size < g') := by
 obtain ⟨i, hi, hz, hs, hby⟩ := info_way
 have hnews : ∀ (j : Nat) (u : Value), [c0, c1, c2, c3][j]? = some u -> (w.alloc (.cells #[c0, c1, c2, c3] 106)).cell? ((⟨w.heap.size, 0, none⟩ : Addr).add j) = some u := by
  intro j u hj
  rw [addr_at]
  exact row_cell (alloc_new w [c0, c1, c2, c3] _) hj
 have hownA := hown.alloc (.cells #[c0, c1, c2, c3] 106)
 obtain ⟨v', w', hr, h2, h3, h4⟩ := run_append_own (P := Tryz.prog) (w.alloc (.cells #[c0, c1, c2, c3] 106)) base 104 104 106 i _ 4 64 Tryz.underlying104 hi hz hs hby rfl (by decide) _ n xs hownA ⟨w.heap.size, 0, none⟩ 1 1 [c0, c1, c2, c3] rfl hnews
  h1 (by unfold maxLen; omega) (by omega) (by simp; omega)
 have hsh : ∃ g' cap', v' = .slice (some ⟨g', 0, none⟩) (n + 1) cap' /\ (g' = g \/ w.heap.size < g') := by
  rcases hownA.2 with ⟨hv, -⟩ | ⟨g0, cap0, cur, hv, hbg, hg, hnc, hcm, hcs, htake⟩
  ·cases hv
  ·simp only [Value.slice.injEq, Option.some.injEq, Addr.mk.injEq] at hv
   obtain ⟨⟨rfl, -, -⟩, -, rfl⟩ := hv
   by_cases hroom : n + 1 <= cap
   ·have hfit : n * i.size + [c0, c1, c2, c3].length <= cur.size := by rw [hs, hcs]; show n * 4 + 4 <= _; omega
    have hr' := run_append_room (P := Tryz.prog) _ 104 104 106 i Tryz.underlying104 hi g n cap cur hg ⟨w.heap.size, 0, none⟩ 1 1 [c0, c1, c2, c3] (by rw [hs]; rfl) hnews h1 hroom hfit
    rw [hr] at hr'
    injection hr' with e1 e2
    exact ⟨g, cap, e1, Or.inl rfl⟩
   ·have hr' := run_append_grow (P := Tryz.prog) _ 104 104 106 i _ Tryz.underlying104 hi hz ⟨g, 0, none⟩ n cap xs (by rw [hs]; exact hownA.1) (hownA.cells (g := g) rfl) ⟨w.heap.size, 0, none⟩ 1 1 [c0, c1, c2, c3] (by rw [hs]; rfl) hnews (by omega) (by omega) (growslice_fits (by omega) (by rw [hby]; omega))
    rw [hr] at hr'
    injection hr' with e1 e2
    exact ⟨_, _, e1, Or.inr (by simp)⟩
 obtain ⟨g', cap', rfl, hg'⟩ := hsh
 exact ⟨g', cap', w', hr, h2, grown_alloc h3, hg'⟩
def restOf (w : World) (r : Nat) : Nat := match w.cell? ⟨r, 0, none⟩ with | some (.string s) => s.size | _ => 0
theorem restOf_rd {w : World} {r : Nat} {q : Rd} (h : RdAt w r q) : restOf w r = q.rest.size := by unfold restOf; rw [(rd_cells h).1]
theorem owns_move {w w' : World} {base : Nat} {e : TypeId} {size n : Nat} {v : Value} {xs : List Value} (h : w.ownsRow base e size v n xs) (hb : ∀ g, v.ownBlock = some g -> w'.heap[g]? = w.heap[g]?) : w'.ownsRow base e size v n xs := by
 obtain ⟨h1, h2⟩ := h
 refine ⟨h1, ?_⟩
 rcases h2 with h | ⟨g, cap, cur, rfl, a, b, c⟩
 ·exact Or.inl h
 ·exact Or.inr ⟨g, cap, cur, rfl, a, (hb g rfl).trans b, c⟩
def zeroWay : List Value := [.int .i64 0, .string { data := #[] }, .string { data := #[] }, .slice none 0 0]
structure WInv (w : World) (fb r d : Nat) (mark : ByteArray) (fin : List WayT × Rd) (t0 : WayT) (v0 : Value) (wr : World) (acc : List WayT) (vs : List Value) (q : Rd) (g cap n : Nat) : Prop where
 own : wr.ownsRow (w.heap.size + 1) 106 4 (.slice (some ⟨g, 0, none⟩) acc.length cap) acc.length (vs.flatMap fl)
 lens : vs.length = acc.length
 at0 : acc[0]? = some t0
 av0 : vs[0]? = some v0
 ways : ∀ (i : Nat) (t : WayT) (v : Value), acc[i]? = some t -> vs[i]? = some v -> WayAt wr (fun k => w.heap.size + 1 <= k /\ k ≠ g) t v
 rd : RdAt wr r q
 left : q.rest.size <= n
 opn0 : 0 <= q.opn
 opn : q.opn + d = 5
 fin : partsG (oneF d) mark n acc q = fin
 few : acc.length + q.rest.size <= 201
 kept : w.grownBy wr (some r)
 res : wr.heap[w.heap.size]? = some (.cells zeroWay.toArray 106 (0, 0))
 first : ∃ cs : List Value, v0 = .agg cs.toArray /\ wr.heap[fb]? = some (.cells cs.toArray 106 (0, 0))
 apart : g ≠ fb /\ w.heap.size < fb /\ w.heap.size < g /\ r < w.heap.size
theorem WInv.start {w w1 : World} {r d : Nat} {mark : ByteArray} {p : WayT × Rd} {cs : List Value} (hr : r < w.heap.size) (hl : cs.length = 4) (hv : WayAt w1 ((w.alloc (.cells zeroWay.toArray 106)).heap.size <= ·) p.1 (.agg cs.toArray)) (hr1 : RdAt w1 r p.2) (hk1 : (w.alloc (.cells zeroWay.toArray 106)).grownBy w1 (some r))
  (hs : p.2.rest.size <= 200) (hp : 0 <= p.2.opn) (ho : p.2.opn + d = 5) :
  WInv w w1.heap.size r d mark (partsG (oneF d) mark p.2.rest.size [p.1] p.2) p.1 (.agg cs.toArray) ((w1.alloc (.cells cs.toArray 106)).alloc (.cells cs.toArray 106)) [p.1] [.agg cs.toArray] p.2 (w1.heap.size + 1) 1 p.2.rest.size := by
 have hsz : w.heap.size + 1 <= w1.heap.size := by have := hk1.size; simp at this; omega
 have hlast : ((w1.alloc (.cells cs.toArray 106)).alloc (.cells cs.toArray 106)).heap[w1.heap.size + 1]? = some (.cells cs.toArray 106 (0, 0)) := by
  have e : (w1.alloc (.cells cs.toArray 106)).heap.size = w1.heap.size + 1 := by simp
  have := alloc_new (w1.alloc (.cells cs.toArray 106)) cs 106
  rw [e] at this; exact this
 refine ⟨⟨by simp [fl, hl], Or.inr ⟨w1.heap.size + 1, 1, cs.toArray, rfl, by omega, hlast, Nat.le_refl _, by decide, by simp [hl], ?_⟩⟩, rfl, rfl, rfl, ?_, rd_alloc (rd_alloc hr1 _) _, Nat.le_refl _, hp, ho, rfl, by simp; omega, ?_, ?_, ⟨cs, rfl, alloc_row (alloc_new _ _ _) _⟩, by omega, by omega, by omega, hr⟩
 ·simp [fl]
  rw [← hl]; exact List.take_length
 ·intro i t v h1 h2
  match i with
  | 0 =>
   simp at h1 h2
   subst h1; subst h2
   refine hv.move fun g hg hlt => ?_
   have hg' : w.heap.size + 1 <= g := by simpa using hg
   refine ⟨⟨hg', by omega⟩, ?_⟩
   rw [Below.heap_alloc _ _ _ (by simp; omega), Below.heap_alloc _ _ _ hlt]
  | i + 1 => simp at h1
 ·exact kept_trans (kept_alloc _ _) (kept_trans hk1 (kept_trans (kept_alloc _ _) (kept_alloc _ _)))
 ·exact alloc_row (alloc_row (kblock hk1 (alloc_new w zeroWay _) (by omega)) _) _
theorem WInv.next {w : World} {fb r d : Nat} {mark : ByteArray} {fin : List WayT × Rd} {t0 : WayT} {v0 : Value} {wr : World} {acc : List WayT} {vs : List Value} {q : Rd} {g cap n : Nat} (h : WInv w fb r d mark fin t0 v0 wr acc vs q g cap n)
  (hm : mark.size = 1) (hb : preB q.rest mark = true) {w2 w3 : World} (hk2 : wr.grownBy w2 (some r)) (hk3 : w2.grownBy w3 (some r)) (hr3 : RdAt w3 r (oneF d (q.sees mark)).2) {c0 c1 c2 c3 : Value} (h1 : ∀ u ∈ [c0, c1, c2, c3], u.oneCell' = true) (hv : WayAt w3 (w2.heap.size <= ·) (oneF d (q.sees mark)).1 (.agg #[c0, c1, c2, c3])) :
  ∃ g' cap' w4, (Builtin.append_ #[104, 104] 104 #[.slice (some ⟨g, 0, none⟩) acc.length cap, .slice (some ⟨w3.heap.size, 0, none⟩) 1 1]).run Tryz.prog (w3.alloc (.cells #[c0, c1, c2, c3] 106)) = .ok (.slice (some ⟨g', 0, none⟩) (acc.length + 1) cap') w4 /\
   WInv w fb r d mark fin t0 v0 w4 (acc ++ [(oneF d (q.sees mark)).1]) (vs ++ [.agg #[c0, c1, c2, c3]]) (oneF d (q.sees mark)).2 g' cap' (n - 1) /\ (oneF d (q.sees mark)).2.rest.size < q.rest.size := by
 obtain ⟨e1, e2, e3, e4⟩ := h.apart
 have hsz : (q.sees mark).rest.size < q.rest.size := by
  have := (pre_true hb).1
  unfold Rd.sees; rw [hb]; simp; omega
 have hsz2 := oneF_size d (q.sees mark)
 have hgw : g < wr.heap.size := by
  rcases h.own.2 with ⟨hv, -⟩ | ⟨g', cap', cur, hv, -, hg, -⟩
  ·cases hv
  ·simp at hv; have := row_lt hg; omega
 have keep : ∀ k, k < wr.heap.size -> k ≠ r -> w3.heap[k]? = wr.heap[k]? := fun k hk hn => by
  rw [hk3.block k (Nat.lt_of_lt_of_le hk hk2.size) (by simpa using hn), hk2.block k hk (by simpa using hn)]
 have hown3 := owns_move (w' := w3) h.own (fun k hk => by simp [Value.ownBlock] at hk; subst hk; exact keep _ hgw (by omega))
 have hs23 := Nat.le_trans hk2.size hk3.size
 have hws : w.heap.size <= wr.heap.size := h.kept.size
 obtain ⟨g', cap', w4, hrun, hown4, hg4, hgg⟩ := app_way w3 (w.heap.size + 1) g cap _ _ c0 c1 c2 c3 h1 hown3 (by omega) (by have := h.few; omega)
 have hg4' : ∀ k, k < w3.heap.size -> k ≠ g -> w4.heap[k]? = w3.heap[k]? := fun k hk hn => hg4.block k hk (by simp; omega)
 have hlen := h.lens
 have hfb : fb < wr.heap.size := by obtain ⟨cs, -, hf⟩ := h.first; exact row_lt hf
 refine ⟨g', cap', w4, hrun, ⟨?_, by simp [hlen], ?_, ?_, ?_, ?_, ?_, ?_, ?_, ?_, ?_, ?_, ?_, ?_, ?_⟩, by omega⟩
 ·rw [List.flatMap_append, List.length_append]; exact hown4
 ·rw [List.getElem?_append_left (by have := List.getElem?_eq_some_iff.1 h.at0; exact this.1)]; exact h.at0
 ·rw [List.getElem?_append_left (by have := List.getElem?_eq_some_iff.1 h.av0; exact this.1)]; exact h.av0
 ·intro i t v ht hv'
  by_cases hi : i < acc.length
  ·rw [List.getElem?_append_left hi] at ht
   rw [List.getElem?_append_left (by omega)] at hv'
   refine (h.ways i t v ht hv').move fun k hk hlt => ?_
   have hkr : k ≠ r := by omega
   refine ⟨⟨hk.1, by omega⟩, ?_⟩
   rw [hg4' k (by omega) hk.2, keep k hlt hkr]
  ·by_cases he : i = acc.length
   ·subst he
    rw [List.getElem?_append_right (Nat.le_refl _)] at ht
    rw [← hlen, List.getElem?_append_right (Nat.le_refl _)] at hv'
    simp at ht hv'
    subst ht; subst hv'
    refine hv.move fun k hk hlt => ?_
    have := hk2.size
    have hk' : w2.heap.size <= k := hk
    exact ⟨⟨by omega, by omega⟩, hg4' k hlt (by omega)⟩
   ·rw [List.getElem?_eq_none (by simp; omega)] at ht; cases ht
 ·unfold RdAt; rw [hg4' r (row_lt hr3) (by omega)]; exact hr3
 ·have := h.left; omega
 ·rw [oneF_opn, sees_opn]; exact h.opn0
 ·rw [oneF_opn, sees_opn]; exact h.opn
 ·have hf := h.fin
  obtain ⟨m, hm'⟩ : ∃ m, n = m + 1 := ⟨n - 1, by have := h.left; omega⟩
  rw [hm', partsG, if_pos hb] at hf
  rw [hm']; exact hf
 ·have := h.few; simp; omega
 ·refine ⟨hg4.os.trans (hk3.os.trans (hk2.os.trans h.kept.os)), hg4.tape.trans (hk3.tape.trans (hk2.tape.trans h.kept.tape)), hg4.output.trans (hk3.output.trans (hk2.output.trans h.kept.output)), Nat.le_trans hws (Nat.le_trans hs23 hg4.size), fun k hk hn => ?_⟩
  rw [hg4' k (by omega) (by omega), keep k (by omega) (by simpa using hn), h.kept.block k hk hn]
 ·rw [hg4' _ (by omega) (by omega), keep _ (by omega) (by omega)]; exact h.res
 ·obtain ⟨cs, hc1, hc2⟩ := h.first
  exact ⟨cs, hc1, by rw [hg4' fb (by omega) (by omega), keep fb hfb (by omega)]; exact hc2⟩
 ·omega
theorem sees_no {q : Rd} {m : ByteArray} (h : preB q.rest m = false) : q.sees m = q := by unfold Rd.sees; rw [h]; rfl
theorem WInv.over {w : World} {fb r d : Nat} {mark : ByteArray} {fin : List WayT × Rd} {t0 : WayT} {v0 : Value} {wr : World} {acc : List WayT} {vs : List Value} {q : Rd} {g cap n : Nat} (h : WInv w fb r d mark fin t0 v0 wr acc vs q g cap n) (hb : preB q.rest mark = false) : fin = (acc, q) := by
 have hf := h.fin
 cases n with
 | zero => exact hf.symm
 | succ n => rw [partsG, if_neg (by rw [hb]; decide)] at hf; exact hf.symm
theorem WInv.row {w : World} {fb r d : Nat} {mark : ByteArray} {fin : List WayT × Rd} {t0 : WayT} {cs : List Value} {wr : World} {acc : List WayT} {vs : List Value} {q : Rd} {g cap n : Nat} (h : WInv w fb r d mark fin t0 (.agg cs.toArray) wr acc vs q g cap n) : wr.heap[fb]? = some (.cells cs.toArray 106 (0, 0)) := by
 obtain ⟨cs', h1, h2⟩ := h.first
 injection h1 with h1
 rw [h1]; exact h2
theorem WInv.ways_end {w : World} {fb r d : Nat} {mark : ByteArray} {fin : List WayT × Rd} {t0 : WayT} {v0 : Value} {wr : World} {acc : List WayT} {vs : List Value} {q : Rd} {g cap n : Nat} (h : WInv w fb r d mark fin t0 v0 wr acc vs q g cap n) (is : Int) {W : World} (hW : ∀ k, w.heap.size + 1 <= k -> k < wr.heap.size -> W.heap[k]? = wr.heap[k]?) :
  (acc.length = 1 -> WayAt W (w.heap.size <= ·) (joinW is acc) v0) /\ (acc.length ≠ 1 -> WayAt W (w.heap.size <= ·) (joinW is acc) (.agg #[.int .i64 is, .string noneB, .string noneB, .slice (some ⟨g, 0, none⟩) acc.length cap])) := by
 have hmove : ∀ {t : WayT} {v : Value}, WayAt wr (fun k => w.heap.size + 1 <= k /\ k ≠ g) t v -> WayAt W (w.heap.size <= ·) t v := fun hv => hv.move fun k hk hlt => ⟨Nat.le_of_succ_le hk.1, hW k hk.1 hlt⟩
 refine ⟨fun hl => ?_, fun hl => ?_⟩
 ·have e : acc = [t0] := by
   have h0 := h.at0
   match acc, hl, h0 with
   | [t], _, h0 => simp at h0; rw [h0]
  rw [e]
  exact hmove (h.ways 0 t0 v0 h.at0 h.av0)
 ·have e : joinW is acc = .mk is noneB noneB acc := by
   have h0 := h.at0
   match acc, hl, h0 with
   | [], _, h0 => simp at h0
   | [_], hl, _ => simp at hl
   | _ :: _ :: _, _, _ => rfl
  rw [e]
  rcases h.own.2 with ⟨hv, -⟩ | ⟨g', cap', cur, hv, hbg, hg, hnc, hcm, hcs, htake⟩
  ·cases hv
  ·simp only [Value.slice.injEq, Option.some.injEq, Addr.mk.injEq] at hv
   obtain ⟨⟨rfl, -, -⟩, -, rfl⟩ := hv
   exact .node is acc vs g cap cur (Nat.le_of_succ_le hbg) (by rw [hW g hbg (row_lt hg)]; exact hg) h.lens (by have := h.few; omega) htake fun i t v h1 h2 => hmove (h.ways i t v h1 h2)
theorem way_of (d : Nat) (HO : Hid (OneC d)) : WayC d := by
 intro r q w hRd hs hp ho
 have hrw : r < w.heap.size := row_lt hRd
 have hne : ¬ w.heap.size = r := by omega
 have HONE : Hid (∀ w1, RdAt w1 r q -> Calls Tryz.prog 161 #[.pointer (some ⟨r, 0, none⟩)] w1 (WRes w1 r (oneF d q))) := fun w1 h => HO.out r q w1 h hs hp ho
 cases hA : preB (oneF d q).2.rest ampB
 ·go_enter Tryz.func106, Tryz.ntmps106
  go_wp2_with (first | (go_at_call 161; refine (HONE.out _ (rd_alloc hRd _)).mono ?_; rintro e w1 ⟨v, rfl, hv1, hr1, hk1⟩; obtain ⟨vi, va, vb, vx, vn, vc, rfl⟩ := hv1.agg; have hcr := fun o => row_cell (alloc_row hr1 o) (j := 0) rfl) | (go_at_call 152; refine (prefix_any _ ampB _).mono ?_; rintro e w2 ⟨rfl, hw2⟩; subst w2; rw [hA]))
  have HST : Hid (WInv w w1.heap.size r d barB (partsG (oneF d) barB (oneF d q).2.rest.size [(oneF d q).1] (oneF d q).2) (oneF d q).1 (.agg #[.int .i64 vi, .string va, .string vb, .slice vx vn vc]) _ _ _ _ _ _ _) := WInv.start (cs := [.int .i64 vi, .string va, .string vb, .slice vx vn vc]) hrw rfl hv1 hr1 hk1 (Nat.le_trans (oneF_size d q) hs) (by rw [oneF_opn]; exact hp) (by rw [oneF_opn]; exact ho)
  have HWP : Hid (partsG (oneF d) barB (oneF d q).2.rest.size [(oneF d q).1] (oneF d q).2 = wayP (oneF d) q) := by show _ = _; unfold wayP markOf; rw [hA]; rfl
  have HWG : Hid (wayG (oneF d) q = (joinW 3 (wayP (oneF d) q).1, (wayP (oneF d) q).2)) := by show _ = _; unfold wayG isOf; rw [hA]; rfl
  rw [HWP.out] at HST
  generalize wayP (oneF d) q = fin at *
  generalize (oneF d q).1 = t0 at *
  generalize wayG (oneF d) q = out at *
  clear hv1 hk1 hcr hA HWP HONE hs hp ho hRd
  go_loopw [6] (fun o wr => ∃ acc vs q' g cap n, o = .slice (some ⟨g, 0, none⟩) (acc : List WayT).length cap /\ WInv w w1.heap.size r d barB fin t0 (.agg #[.int .i64 vi, .string va, .string vb, .slice vx vn vc]) wr acc vs q' g cap n) (fun _ wr => restOf wr r)
  case atStart => exact ⟨_, _, _, _, _, _, rfl, HST.out⟩
  case round =>
   obtain ⟨acc, vs, q', g, cap, n, rfl, hI⟩ := hrel
   clear HST
   cases hb : preB q'.rest barB
   ·have HS := sees_any r q' barB wr hI.rd
    rw [hb, sees_no hb] at HS
    have HOUT : Hid (out = (joinW 3 acc, q')) := by show _ = _; rw [HWG.out, hI.over hb]
    have HI : Hid (WInv w w1.heap.size r d barB fin t0 (.agg #[.int .i64 vi, .string va, .string vb, .slice vx vn vc]) wr acc vs q' g cap n) := hI
    have hfb : w.heap.size < w1.heap.size := hI.apart.2.1
    clear HWG hb
    by_cases hl : acc.length = 1
    ·have hl1 : ((acc.length : Int) == 1) = true := by simp [hl]
     have HL : Hid (acc.length = 1) := hl
     clear hl hI
     go_wp2_with (first | (go_at_call 89; refine HS.mono ?_; clear HS; rintro e w2 ⟨rfl, hr2, hk2⟩; have hF := kblock hk2 (HI.out.row (cs := [.int .i64 vi, .string va, .string vb, .slice vx vn vc])) (by omega); have hB := kblock hk2 HI.out.res hne; have hF0 := row_cell hF (j := 0) rfl; have hF1 := row_cell hF (j := 1) rfl; have hF2 := row_cell hF (j := 2) rfl; have hF3 := row_cell hF (j := 3) rfl; have hB0 := row_cell hB (j := 0) rfl; have hB1 := row_cell hB (j := 1) rfl; have hB2 := row_cell hB (j := 2) rfl; have hB3 := row_cell hB (j := 3) rfl; have hZ0 := row_frozen hB 0; have hZ1 := row_frozen hB 1; have hZ2 := row_frozen hB 2; have hZ3 := row_frozen hB 3; clear hF hB))
     rw [HOUT.out]
     have hs2 := hk2.size
     have hw := HI.out.kept.size
     refine bodyPost_ret (v := .agg #[.int .i64 vi, .string va, .string vb, .slice vx vn vc]) (by simp [results, Tryz.results106, go_sem, hB0, hB1, hB2, hB3]) rfl ⟨_, rfl, (HI.out.ways_end 3 fun k hk hlt => ?_).1 HL.out, rd4 hr2 (Ne.symm hne) _ _ _ _, kept4 (kept_trans HI.out.kept hk2) (Nat.le_refl _) _ _ _ _⟩
     rw [other4 (by omega), hk2.block k hlt (by simp; omega)]
    ·have hl1 : ((acc.length : Int) == 1) = false := by simp; omega
     have HL : Hid (acc.length ≠ 1) := hl
     clear hl hI
     go_wp2_with (first | (go_at_call 89; refine HS.mono ?_; clear HS; rintro e w2 ⟨rfl, hr2, hk2⟩; have hF := kblock hk2 (HI.out.row (cs := [.int .i64 vi, .string va, .string vb, .slice vx vn vc])) (by omega); have hB := kblock hk2 HI.out.res hne; have hF0 := row_cell hF (j := 0) rfl; have hF1 := row_cell hF (j := 1) rfl; have hF2 := row_cell hF (j := 2) rfl; have hF3 := row_cell hF (j := 3) rfl; have hB0 := row_cell hB (j := 0) rfl; have hB1 := row_cell hB (j := 1) rfl; have hB2 := row_cell hB (j := 2) rfl; have hB3 := row_cell hB (j := 3) rfl; have hZ0 := row_frozen hB 0; have hZ1 := row_frozen hB 1; have hZ2 := row_frozen hB 2; have hZ3 := row_frozen hB 3; clear hF hB))
     rw [HOUT.out]
     have hs2 := hk2.size
     have hw := HI.out.kept.size
     refine bodyPost_ret (v := .agg #[.int .i64 3, .string { data := #[] }, .string { data := #[] }, .slice (some ⟨g, 0, none⟩) acc.length cap]) (by simp [results, Tryz.results106, go_sem, hB0, hB1, hB2, hB3]) rfl ⟨_, rfl, (HI.out.ways_end 3 fun k hk hlt => ?_).2 HL.out, rd4 hr2 (Ne.symm hne) _ _ _ _, kept4 (kept_trans HI.out.kept hk2) (Nat.le_refl _) _ _ _ _⟩
     rw [other4 (by omega), hk2.block k hlt (by simp; omega)]
   ·have HS := sees_any r q' barB wr hI.rd
    rw [hb] at HS
    have sS := sees_size q' barB
    have HN : Hid (∀ w2, RdAt w2 r (q'.sees barB) -> Calls Tryz.prog 161 #[.pointer (some ⟨r, 0, none⟩)] w2 (WRes w2 r (oneF d (q'.sees barB)))) := fun w2 h => HO.out r _ w2 h (by have := hI.few; have h0 := List.getElem?_eq_some_iff.1 hI.at0; have := h0.1; omega) (by rw [sees_opn]; exact hI.opn0) (by rw [sees_opn]; exact hI.opn)
    have HB : Hid (preB q'.rest barB = true) := hb
    have HI : Hid (WInv w w1.heap.size r d barB fin t0 (.agg #[.int .i64 vi, .string va, .string vb, .slice vx vn vc]) wr acc vs q' g cap n) := hI
    have HM : Hid (restOf wr r = q'.rest.size) := restOf_rd hI.rd
    clear HWG hb sS hI
    go_wp2_with (first | (go_at_call 89; refine HS.mono ?_; clear HS; rintro e w2 ⟨rfl, hr2, hk2⟩) | (go_at_call 161; refine (HN.out _ hr2).mono ?_; rintro e w3 ⟨v3, rfl, hv3, hr3, hk3⟩; obtain ⟨xi, xa, xb, xx, xn, xc, rfl⟩ := hv3.agg; obtain ⟨g', cap', w4, hrun, hI4, hlt⟩ := HI.out.next rfl HB.out hk2 hk3 hr3 (by intro u hu; simp at hu; rcases hu with rfl | rfl | rfl | rfl <;> rfl) hv3; have HI4 : Hid (WInv w w1.heap.size r d barB fin t0 (.agg #[.int .i64 vi, .string va, .string vb, .slice vx vn vc]) w4 _ _ _ g' cap' (n - 1)) := hI4; have HLT : Hid ((oneF d (q'.sees barB)).2.rest.size < q'.rest.size) := hlt; clear hI4 hlt) | (at_builtin; refine wpList_app_run rfl (.tmp 19) (.tmp 22) 104 rfl _ _ _ rfl rfl hrun ?_))
    go_roundw
    case rel => exact ⟨_, _, _, _, _, _, by simp, HI4.out⟩
    case measure => rw [HM.out, restOf_rd HI4.out.rd]; exact HLT.out
 ·go_enter Tryz.func106, Tryz.ntmps106
  go_wp2_with (first | (go_at_call 161; refine (HONE.out _ (rd_alloc hRd _)).mono ?_; rintro e w1 ⟨v, rfl, hv1, hr1, hk1⟩; obtain ⟨vi, va, vb, vx, vn, vc, rfl⟩ := hv1.agg; have hcr := fun o => row_cell (alloc_row hr1 o) (j := 0) rfl) | (go_at_call 152; refine (prefix_any _ ampB _).mono ?_; rintro e w2 ⟨rfl, hw2⟩; subst w2; rw [hA]))
  have HST : Hid (WInv w w1.heap.size r d ampB (partsG (oneF d) ampB (oneF d q).2.rest.size [(oneF d q).1] (oneF d q).2) (oneF d q).1 (.agg #[.int .i64 vi, .string va, .string vb, .slice vx vn vc]) _ _ _ _ _ _ _) := WInv.start (cs := [.int .i64 vi, .string va, .string vb, .slice vx vn vc]) hrw rfl hv1 hr1 hk1 (Nat.le_trans (oneF_size d q) hs) (by rw [oneF_opn]; exact hp) (by rw [oneF_opn]; exact ho)
  have HWP : Hid (partsG (oneF d) ampB (oneF d q).2.rest.size [(oneF d q).1] (oneF d q).2 = wayP (oneF d) q) := by show _ = _; unfold wayP markOf; rw [hA]; rfl
  have HWG : Hid (wayG (oneF d) q = (joinW 4 (wayP (oneF d) q).1, (wayP (oneF d) q).2)) := by show _ = _; unfold wayG isOf; rw [hA]; rfl
  rw [HWP.out] at HST
  generalize wayP (oneF d) q = fin at *
  generalize (oneF d q).1 = t0 at *
  generalize wayG (oneF d) q = out at *
  clear hv1 hk1 hcr hA HWP HONE hs hp ho hRd
  go_loopw [6] (fun o wr => ∃ acc vs q' g cap n, o = .slice (some ⟨g, 0, none⟩) (acc : List WayT).length cap /\ WInv w w1.heap.size r d ampB fin t0 (.agg #[.int .i64 vi, .string va, .string vb, .slice vx vn vc]) wr acc vs q' g cap n) (fun _ wr => restOf wr r)
  case atStart => exact ⟨_, _, _, _, _, _, rfl, HST.out⟩
  case round =>
   obtain ⟨acc, vs, q', g, cap, n, rfl, hI⟩ := hrel
   clear HST
   cases hb : preB q'.rest ampB
   ·have HS := sees_any r q' ampB wr hI.rd
    rw [hb, sees_no hb] at HS
    have HOUT : Hid (out = (joinW 4 acc, q')) := by show _ = _; rw [HWG.out, hI.over hb]
    have HI : Hid (WInv w w1.heap.size r d ampB fin t0 (.agg #[.int .i64 vi, .string va, .string vb, .slice vx vn vc]) wr acc vs q' g cap n) := hI
    have hfb : w.heap.size < w1.heap.size := hI.apart.2.1
    clear HWG hb
    by_cases hl : acc.length = 1
    ·have hl1 : ((acc.length : Int) == 1) = true := by simp [hl]
     have HL : Hid (acc.length = 1) := hl
     clear hl hI
     go_wp2_with (first | (go_at_call 89; refine HS.mono ?_; clear HS; rintro e w2 ⟨rfl, hr2, hk2⟩; have hF := kblock hk2 (HI.out.row (cs := [.int .i64 vi, .string va, .string vb, .slice vx vn vc])) (by omega); have hB := kblock hk2 HI.out.res hne; have hF0 := row_cell hF (j := 0) rfl; have hF1 := row_cell hF (j := 1) rfl; have hF2 := row_cell hF (j := 2) rfl; have hF3 := row_cell hF (j := 3) rfl; have hB0 := row_cell hB (j := 0) rfl; have hB1 := row_cell hB (j := 1) rfl; have hB2 := row_cell hB (j := 2) rfl; have hB3 := row_cell hB (j := 3) rfl; have hZ0 := row_frozen hB 0; have hZ1 := row_frozen hB 1; have hZ2 := row_frozen hB 2; have hZ3 := row_frozen hB 3; clear hF hB))
     rw [HOUT.out]
     have hs2 := hk2.size
     have hw := HI.out.kept.size
     refine bodyPost_ret (v := .agg #[.int .i64 vi, .string va, .string vb, .slice vx vn vc]) (by simp [results, Tryz.results106, go_sem, hB0, hB1, hB2, hB3]) rfl ⟨_, rfl, (HI.out.ways_end 4 fun k hk hlt => ?_).1 HL.out, rd4 hr2 (Ne.symm hne) _ _ _ _, kept4 (kept_trans HI.out.kept hk2) (Nat.le_refl _) _ _ _ _⟩
     rw [other4 (by omega), hk2.block k hlt (by simp; omega)]
    ·have hl1 : ((acc.length : Int) == 1) = false := by simp; omega
     have HL : Hid (acc.length ≠ 1) := hl
     clear hl hI
     go_wp2_with (first | (go_at_call 89; refine HS.mono ?_; clear HS; rintro e w2 ⟨rfl, hr2, hk2⟩; have hF := kblock hk2 (HI.out.row (cs := [.int .i64 vi, .string va, .string vb, .slice vx vn vc])) (by omega); have hB := kblock hk2 HI.out.res hne; have hF0 := row_cell hF (j := 0) rfl; have hF1 := row_cell hF (j := 1) rfl; have hF2 := row_cell hF (j := 2) rfl; have hF3 := row_cell hF (j := 3) rfl; have hB0 := row_cell hB (j := 0) rfl; have hB1 := row_cell hB (j := 1) rfl; have hB2 := row_cell hB (j := 2) rfl; have hB3 := row_cell hB (j := 3) rfl; have hZ0 := row_frozen hB 0; have hZ1 := row_frozen hB 1; have hZ2 := row_frozen hB 2; have hZ3 := row_frozen hB 3; clear hF hB))
     rw [HOUT.out]
     have hs2 := hk2.size
     have hw := HI.out.kept.size
     refine bodyPost_ret (v := .agg #[.int .i64 4, .string { data := #[] }, .string { data := #[] }, .slice (some ⟨g, 0, none⟩) acc.length cap]) (by simp [results, Tryz.results106, go_sem, hB0, hB1, hB2, hB3]) rfl ⟨_, rfl, (HI.out.ways_end 4 fun k hk hlt => ?_).2 HL.out, rd4 hr2 (Ne.symm hne) _ _ _ _, kept4 (kept_trans HI.out.kept hk2) (Nat.le_refl _) _ _ _ _⟩
     rw [other4 (by omega), hk2.block k hlt (by simp; omega)]
   ·have HS := sees_any r q' ampB wr hI.rd
    rw [hb] at HS
    have sS := sees_size q' ampB
    have HN : Hid (∀ w2, RdAt w2 r (q'.sees ampB) -> Calls Tryz.prog 161 #[.pointer (some ⟨r, 0, none⟩)] w2 (WRes w2 r (oneF d (q'.sees ampB)))) := fun w2 h => HO.out r _ w2 h (by have := hI.few; have h0 := List.getElem?_eq_some_iff.1 hI.at0; have := h0.1; omega) (by rw [sees_opn]; exact hI.opn0) (by rw [sees_opn]; exact hI.opn)
    have HB : Hid (preB q'.rest ampB = true) := hb
    have HI : Hid (WInv w w1.heap.size r d ampB fin t0 (.agg #[.int .i64 vi, .string va, .string vb, .slice vx vn vc]) wr acc vs q' g cap n) := hI
    have HM : Hid (restOf wr r = q'.rest.size) := restOf_rd hI.rd
    clear HWG hb sS hI
    go_wp2_with (first | (go_at_call 89; refine HS.mono ?_; clear HS; rintro e w2 ⟨rfl, hr2, hk2⟩) | (go_at_call 161; refine (HN.out _ hr2).mono ?_; rintro e w3 ⟨v3, rfl, hv3, hr3, hk3⟩; obtain ⟨xi, xa, xb, xx, xn, xc, rfl⟩ := hv3.agg; obtain ⟨g', cap', w4, hrun, hI4, hlt⟩ := HI.out.next rfl HB.out hk2 hk3 hr3 (by intro u hu; simp at hu; rcases hu with rfl | rfl | rfl | rfl <;> rfl) hv3; have HI4 : Hid (WInv w w1.heap.size r d ampB fin t0 (.agg #[.int .i64 vi, .string va, .string vb, .slice vx vn vc]) w4 _ _ _ g' cap' (n - 1)) := hI4; have HLT : Hid ((oneF d (q'.sees ampB)).2.rest.size < q'.rest.size) := hlt; clear hI4 hlt) | (at_builtin; refine wpList_app_run rfl (.tmp 19) (.tmp 22) 104 rfl _ _ _ rfl rfl hrun ?_))
    go_roundw
    case rel => exact ⟨_, _, _, _, _, _, by simp, HI4.out⟩
    case measure => rw [HM.out, restOf_rd HI4.out.rd]; exact HLT.out
theorem one_all : ∀ d, OneC d := by
 intro d
 induction d with
 | zero => exact one_any 0 (br_any 0 (fun e h => by omega))
 | succ d ih => exact one_any (d + 1) (br_any (d + 1) (fun e h => by
   have e' : d = e := by omega
   subst e'; exact way_of d ih))
theorem way_all (d : Nat) : WayC d := way_of d (one_all d)
end Go.Proofs.YtalmoiogbdahcaaGreat
