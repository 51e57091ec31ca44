import Derived.Test.YtalmoiogbdahcaaGreatYRefG
import Derived.BigRegion
import Derived.RegionTactic
namespace Go.Proofs.YtalmoiogbdahcaaGreat
set_option maxRecDepth 100000
set_option maxHeartbeats 8000000
open Go.RowKit
theorem owns_strs {w : World} {base : Nat} {v : Value} {xs : List ByteArray} (h : w.ownsRow base 9 1 v xs.length (strV xs)) : StrsAt w v xs := by
 rcases h.2 with ⟨hv, hn⟩ | ⟨g, cap, cur, hv, hg, hh, -, -, -, ht⟩
 ·exact Or.inl ⟨hv, List.eq_nil_of_length_eq_zero hn⟩
 ·refine Or.inr ⟨g, 0, cap, hv, ?_⟩
  intro i x hx
  have hl : i < xs.length := (List.getElem?_eq_some_iff.1 hx).1
  have h1 : cur.toList[i]? = some (.string x) := by
   have : (cur.toList.take (xs.length * 1))[i]? = some (.string x) := by rw [ht]; exact strV_get hx
   rw [List.getElem?_take_of_lt (by omega)] at this
   exact this
  rw [Nat.zero_add]
  simp only [World.cell?, hh]
  simpa using h1
def StrT (w : World) (v : Value) (xs : List ByteArray) : Prop :=
 (v = .slice none 0 0 /\ xs = []) \/ ∃ (b cap : Nat) (cur : List Value), v = .slice (some ⟨b, 0, none⟩) xs.length cap /\ w.heap[b]? = some (.cells cur.toArray 9 (0, 0)) /\ cur.take xs.length = strV xs
theorem StrT.strs {w : World} {v : Value} {xs : List ByteArray} (h : StrT w v xs) : StrsAt w v xs := by
 rcases h with h | ⟨b, cap, cur, hv, hh, ht⟩
 ·exact Or.inl h
 ·refine Or.inr ⟨b, 0, cap, hv, fun i x hx => ?_⟩
  have hl : i < xs.length := (List.getElem?_eq_some_iff.1 hx).1
  rw [Nat.zero_add]
  refine row_cell hh ?_
  have h1 : (strV xs)[i]? = some (.string x) := strV_get hx
  rw [← ht, List.getElem?_take_of_lt hl] at h1
  exact h1
theorem StrT.move {w w' : World} {v : Value} {xs : List ByteArray} (h : StrT w v xs) (hw : ∀ (b : Nat) (cur : List Value), w.heap[b]? = some (.cells cur.toArray 9 (0, 0)) -> w'.heap[b]? = w.heap[b]?) : StrT w' v xs := by
 rcases h with h | ⟨b, cap, cur, hv, hh, ht⟩
 ·exact Or.inl h
 ·exact Or.inr ⟨b, cap, cur, hv, (hw b cur hh).trans hh, ht⟩
theorem owns_strT {w : World} {base : Nat} {v : Value} {xs : List ByteArray} (h : w.ownsRow base 9 1 v xs.length (strV xs)) : StrT w v xs := by
 rcases h.2 with ⟨hv, hn⟩ | ⟨g, cap, cur, hv, hg, hh, -, -, -, ht⟩
 ·exact Or.inl ⟨hv, List.eq_nil_of_length_eq_zero hn⟩
 ·exact Or.inr ⟨g, cap, cur.toList, hv, by rw [Array.toArray_toList]; exact hh, by rw [Nat.mul_one] at ht; exact ht⟩
theorem strs_below {w w' : World} {v : Value} {xs : List ByteArray} (h : StrsAt w v xs) (hb : Below w.heap.size w w') : StrsAt w' v xs := by
 rcases h with h | ⟨b, off, cap, hv, hc⟩
 ·exact Or.inl h
 ·exact Or.inr ⟨b, off, cap, hv, fun i x hx => by have h1 := hc i x hx; rw [← h1]; exact hb.cell (cell_lt h1)⟩
theorem rules_below {w w' : World} {v : Value} {rs : List (ByteArray × ByteArray)} (h : RulesAt w v rs) (hb : Below w.heap.size w w') : RulesAt w' v rs := by
 rcases h with h | ⟨b, cap, hv, hc⟩
 ·exact Or.inl h
 ·refine Or.inr ⟨b, cap, hv, fun i x hx => ?_⟩
  obtain ⟨h1, h2⟩ := hc i x hx
  exact ⟨by rw [← h1]; exact hb.cell (cell_lt h1), by rw [← h2]; exact hb.cell (cell_lt h2)⟩
theorem rg_below {w w' : World} {b : Nat} {g : Rg} (h : RgAt w b g) (hb : Below w.heap.size w w') : RgAt w' b g := by
 unfold RgAt at h ⊢; rw [hb.block b (row_lt h)]; exact h
theorem below_draw {w w' : World} (h : ∃ n, w' = w.drewN n) : Below w.heap.size w w' := by
 obtain ⟨n, rfl⟩ := h; exact below_drewN (Below.refl _ _) _
theorem fold_len (s : ByteArray) (xs : List ByteArray) : ∀ q : Bool × List ByteArray, (xs.foldl (withStep s) q).2.length + (if (xs.foldl (withStep s) q).1 then 1 else 0) <= q.2.length + xs.length + (if q.1 then 1 else 0) := by
 induction xs with
 | nil => intro q; exact Nat.le_refl _
 | cons x xs ih =>
  intro q
  rw [List.foldl_cons]
  refine Nat.le_trans (ih _) ?_
  have : (withStep s q x).2.length + (if (withStep s q x).1 then 1 else 0) <= q.2.length + 1 + (if q.1 then 1 else 0) := by
   unfold withStep; dsimp only
   rw [List.length_append]
   cases q.1 <;> cases gtB x s <;> cases neB x s <;> simp
  simp only [List.length_cons]; omega
theorem withL_len (xs : List ByteArray) (s : ByteArray) (there : Bool) : (withL xs s there).length <= xs.length + 1 := by
 have h := fold_len s xs (there, [])
 unfold withL
 rw [List.length_append]
 dsimp only at h
 have e : (if (xs.foldl (withStep s) (there, [])).1 then [s] else []).length = (if (xs.foldl (withStep s) (there, [])).1 then 1 else 0) := by split <;> rfl
 rw [e]
 have h1 : (if there then 1 else 0) <= 1 := by split <;> omega
 simp at h; omega
def faultS (rs : List (ByteArray × ByteArray)) (s : ByteArray) : Int :=
 if s.size = 0 \/ (byteAt s 0 ≠ 43 /\ byteAt s 0 ≠ 45) then 4
 else if tupleS (s.extract 1 s.size) = false then 4
 else if (ruleL rs (cutA (s.extract 1 s.size) 64)).size = 0 \/ (nodeS (cutZ (s.extract 1 s.size) 64) = true /\ (ruleL rs (cutZ (s.extract 1 s.size) 64)).size = 0) then 5
 else 0
def doneS (now : List ByteArray) (s : ByteArray) : List ByteArray := withL now (s.extract 1 s.size) (decide (byteAt s 0 = 43))
def batchL (rs : List (ByteArray × ByteArray)) : List ByteArray -> Nat -> List ByteArray -> Sum (Nat × Int) (List ByteArray)
 | now, _, [] => .inr now
 | now, i, s :: l => if faultS rs s = 0 then batchL rs (doneS now s) (i + 1) l else .inl (i, faultS rs s)
theorem refWrite_full (b : Nat) (g : Rg) (a : Addr) (n c : Nat) (w : World) (hg : RgAt w b g) (hcl : g.closed = false) (hn : 20 < n) (hl : n <= maxLen) :
  Calls Tryz.prog 35 #[.pointer (some ⟨b, 0, none⟩), .slice (some a) n c] w fun e w' => e = .returned (.tuple #[.int .i64 0, .int .i64 0, .int .i64 6]) /\ w' = w := by
 have h4 : w.cell? ⟨b, 4, none⟩ = some (.bool g.closed) := row_cell hg rfl
 rw [hcl] at h4
 unfold maxLen at hl
 go_enter Tryz.func35, Tryz.ntmps35
 go_wp2
 go_ret3
 exact ⟨rfl, rfl⟩
def WPost (w : World) (b : Nat) (g : Rg) (r : Sum (Nat × Int) (List ByteArray)) (e : Ending) (w' : World) : Prop :=
 match r with
 | .inl (i, f) => e = .returned (.tuple #[.int .i64 0, .int .i64 i, .int .i64 f]) /\ Below w.heap.size w w'
 | .inr ys => if 50 < ys.length then e = .returned (.tuple #[.int .i64 0, .int .i64 0, .int .i64 6]) /\ Below w.heap.size w w'
   else ∃ v, e = .returned (.tuple #[.int .i64 (g.version + 1), .int .i64 0, .int .i64 0]) /\ RgAt w' b { g with nowV := v, version := g.version + 1 } /\ StrT w' v ys /\ w.grownBy w' (some b)
theorem wpost_err {w : World} {b : Nat} {g : Rg} {r : Sum (Nat × Int) (List ByteArray)} {i : Nat} {f : Int} {e : Ending} {w' : World} (hr : r = .inl (i, f)) (he : e = .returned (.tuple #[.int .i64 0, .int .i64 i, .int .i64 f])) (hb : Below w.heap.size w w') : WPost w b g r e w' := by
 subst hr; exact ⟨he, hb⟩
theorem refWrite_open (b : Nat) (g : Rg) (rs : List (ByteArray × ByteArray)) (now xs : List ByteArray) (bb off cap : Nat) (w : World) (hg : RgAt w b g) (hcl : g.closed = false) (hr : RulesAt w g.rulesV rs) (hrl : rs.length <= 12) (hnow : StrT w g.nowV now) (hnl : now.length <= 50)
  (hxs : ∀ i x, xs[i]? = some x -> w.cell? ⟨bb, off + i, none⟩ = some (.string x)) (hxn : xs.length <= 20) (hsz : ∀ x ∈ xs, x.size <= 140737488355328) (hnb : ∀ a m c, g.nowV = .slice (some a) m c -> a.block ≠ b) (hver : 0 <= g.version /\ g.version <= 4611686018427387904) :
  Calls Tryz.prog 35 #[.pointer (some ⟨b, 0, none⟩), .slice (some ⟨bb, off, none⟩) xs.length cap] w fun e w' => WPost w b g (batchL rs now 0 xs) e w' := by
 obtain ⟨n, hn⟩ : ∃ n, xs.length = n := ⟨_, rfl⟩
 have HX : Hid (xs.length = n) := hn
 rw [hn] at hxn ⊢
 clear hn
 have h4 : w.cell? ⟨b, 4, none⟩ = some (.bool g.closed) := row_cell hg rfl
 have h1 : w.cell? ⟨b, 1, none⟩ = some g.nowV := row_cell hg rfl
 rw [hcl] at h4
 go_enter Tryz.func35, Tryz.ntmps35
 go_wp2
 go_loopw [7, 8] (fun nv i wr => ∃ (k : Nat) (v : Value) (ys : List ByteArray), v = nv /\ k <= n /\ i = .int .i64 k /\ StrT wr v ys /\ ys.length <= 50 + k /\ Below w.heap.size w wr /\ batchL rs now 0 xs = batchL rs ys k (xs.drop k) /\ (∀ a m c, v = .slice (some a) m c -> a.block ≠ b)) (fun _ i _ => n - (intOf i).toNat)
 case atStart => exact ⟨0, _, now, rfl, Nat.zero_le _, rfl, hnow, by omega, Below.refl _ _, rfl, hnb⟩
 case round =>
  obtain ⟨k, v, ys, rfl, hk, rfl, hv, hvl, hb, hrun, hvb⟩ := hrel
  have HVB : Hid (∀ a m c, v = .slice (some a) m c -> a.block ≠ b) := hvb
  clear hvb
  have HV : Hid (StrT wr v ys) := hv
  have HB : Hid (Below w.heap.size w wr) := hb
  have HR : Hid (batchL rs now 0 xs = batchL rs ys k (xs.drop k)) := hrun
  clear hv hb hrun
  by_cases hlt : k < n
  ·have hkx : k < xs.length := by have := HX.out; omega
   obtain ⟨x, hx⟩ : ∃ x, xs[k] = x := ⟨_, rfl⟩
   have hc0 := hxs k x (by rw [List.getElem?_eq_getElem hkx, hx])
   have hck : wr.cell? ⟨bb, off + k, none⟩ = some (.string x) := by rw [← hc0]; exact HB.out.cell (cell_lt hc0)
   have hxz : x.size <= 140737488355328 := hsz x (by rw [← hx]; exact List.getElem_mem hkx)
   have HD : Hid (batchL rs now 0 xs = if faultS rs x = 0 then batchL rs (doneS ys x) (k + 1) (xs.drop (k + 1)) else .inl (k, faultS rs x)) := by
    show _ = _
    rw [HR.out, List.drop_eq_getElem_cons hkx, hx, batchL]
   clear hkx hx hc0 hxs
   have HG : Hid (RgAt wr b g) := rg_below hg HB.out
   have HU : Hid (RulesAt wr g.rulesV rs) := rules_below hr HB.out
   have HNS : Hid (∀ q : ByteArray, q.size <= 140737488355328 -> ∀ m, Calls Tryz.prog 72 #[.pointer (some ⟨b, 0, none⟩), .string q] (wr.drewN m) fun e w' => e = .returned (.string (ruleL rs q)) /\ ∃ n, w' = (wr.drewN m).drewN n) := fun q hq m => rule_any b g rs q (wr.drewN m) (rg_below HG.out (below_drewN (Below.refl _ _) _)) (rules_below HU.out (below_drewN (Below.refl _ _) _)) hrl (by omega)
   by_cases hx0 : 0 < x.size
   ·have hxe : x.toList.isEmpty = false := not_empty x hx0
    obtain ⟨c0, hc0⟩ : ∃ c : Int, (x[0].toNat : Int) = c := ⟨_, rfl⟩
    have hby : byteAt x 0 = c0 := by rw [byteAt_eq x 0 hx0, hc0]
    by_cases hsg : c0 ≠ 43 /\ c0 ≠ 45
    ·have HF : Hid (batchL rs now 0 xs = .inl (k, 4)) := by
      have hf : faultS rs x = 4 := by unfold faultS; rw [if_pos (Or.inr (by rw [hby]; exact hsg))]
      show _ = _
      rw [HD.out, hf]; rfl
     have g1 : (c0 != 43) = true := by simpa using hsg.1
     have g2 : (c0 != 45) = true := by simpa using hsg.2
     clear hsg
     go_wp2
     go_ret3
     exact wpost_err HF.out rfl HB.out
    ·have hsg' : c0 = 43 \/ c0 = 45 := by omega
     clear hsg
     have hts : (x.extract 1 x.size).size <= 140737488355328 := by simp; omega
     have hdn : doneS ys x = withL ys (x.extract 1 x.size) (decide (c0 = 43)) := by unfold doneS; rw [hby]
     have hfl : faultS rs x = if tupleS (x.extract 1 x.size) = false then 4 else if (ruleL rs (cutA (x.extract 1 x.size) 64)).size = 0 \/ (nodeS (cutZ (x.extract 1 x.size) 64) = true /\ (ruleL rs (cutZ (x.extract 1 x.size) 64)).size = 0) then 5 else 0 := by
      unfold faultS
      rw [if_neg (by rw [hby]; omega)]
     have htu := fun w => tuple_any (x.extract 1 x.size) w (by unfold maxLen; omega)
     have hcs := cut_sum (x.extract 1 x.size) 64
     obtain ⟨A, hA⟩ : ∃ A, cutA (x.extract 1 x.size) 64 = A := ⟨_, rfl⟩
     obtain ⟨Z, hZ⟩ : ∃ Z, cutZ (x.extract 1 x.size) 64 = Z := ⟨_, rfl⟩
     rw [hA, hZ] at hfl hcs
     rw [hA, hZ] at htu
     have hra := HNS.out A (by omega)
     have hrz := HNS.out Z (by omega)
     have hno := fun w => node_any Z w (by unfold maxLen; omega)
     clear hA hZ hcs HNS hby
     generalize ruleL rs A = RA at *
     generalize ruleL rs Z = RZ at *
     generalize nodeS Z = nz at *
     generalize tupleS (x.extract 1 x.size) = tok at *
     cases tok
     ·have HF : Hid (batchL rs now 0 xs = .inl (k, 4)) := by
       show _ = _
       rw [HD.out, hfl]; rfl
      clear hfl hdn
      rcases hsg' with rfl | rfl
      all_goals
       go_wp2_with (first | (go_at_call 71; refine (htu _).mono ?_; rintro e w1 ⟨rfl, ⟨n1, rfl⟩⟩) | (go_at_call 72; refine (hra _).mono ?_; clear hra; rintro e w1 ⟨rfl, ⟨n2, rfl⟩⟩) | (go_at_call 73; refine (hno _).mono ?_; rintro e w1 ⟨rfl, ⟨n3, rfl⟩⟩) | (go_at_call 72; refine (hrz _).mono ?_; rintro e w1 ⟨rfl, ⟨n4, rfl⟩⟩))
       go_ret3
       exact wpost_err HF.out rfl (below_drewN HB.out _)
     ·by_cases hra0 : RA.size = 0
      ·have HF : Hid (batchL rs now 0 xs = .inl (k, 5)) := by
        show _ = _
        rw [HD.out, show faultS rs x = 5 by rw [hfl, if_neg (by simp), if_pos (Or.inl hra0)]]; rfl
       have hre := is_empty RA hra0
       clear hfl hdn hra0
       rcases hsg' with rfl | rfl
       all_goals
        go_wp2_with (first | (go_at_call 71; refine (htu _).mono ?_; rintro e w1 ⟨rfl, ⟨n1, rfl⟩⟩) | (go_at_call 72; refine (hra _).mono ?_; clear hra; rintro e w1 ⟨rfl, ⟨n2, rfl⟩⟩) | (go_at_call 73; refine (hno _).mono ?_; rintro e w1 ⟨rfl, ⟨n3, rfl⟩⟩) | (go_at_call 72; refine (hrz _).mono ?_; rintro e w1 ⟨rfl, ⟨n4, rfl⟩⟩))
        go_ret3
        exact wpost_err HF.out rfl (below_drewN HB.out _)
      ·have hre := not_empty RA (by omega)
       by_cases hrz0 : nz = true /\ RZ.size = 0
       ·have HF : Hid (batchL rs now 0 xs = .inl (k, 5)) := by
         show _ = _
         rw [HD.out, show faultS rs x = 5 by rw [hfl, if_neg (by simp), if_pos (Or.inr hrz0)]]; rfl
        obtain ⟨rfl, hz0⟩ := hrz0
        have hrze := is_empty RZ hz0
        clear hfl hdn hra0 hz0
        rcases hsg' with rfl | rfl
        all_goals
         go_wp2_with (first | (go_at_call 71; refine (htu _).mono ?_; rintro e w1 ⟨rfl, ⟨n1, rfl⟩⟩) | (go_at_call 72; refine (hra _).mono ?_; clear hra; rintro e w1 ⟨rfl, ⟨n2, rfl⟩⟩) | (go_at_call 73; refine (hno _).mono ?_; rintro e w1 ⟨rfl, ⟨n3, rfl⟩⟩) | (go_at_call 72; refine (hrz _).mono ?_; rintro e w1 ⟨rfl, ⟨n4, rfl⟩⟩))
         go_ret3
         exact wpost_err HF.out rfl (below_drewN HB.out _)
       ·have HF : Hid (batchL rs now 0 xs = batchL rs (withL ys (x.extract 1 x.size) (decide (c0 = 43))) (k + 1) (xs.drop (k + 1))) := by
         show _ = _
         rw [HD.out, if_pos (show faultS rs x = 0 by rw [hfl, if_neg (by simp), if_neg (fun h => h.elim hra0 hrz0)]), hdn]
        have hnz : nz = false \/ (nz = true /\ RZ.toList.isEmpty = false) := by
         cases nz
         ·exact Or.inl rfl
         ·exact Or.inr ⟨rfl, not_empty RZ (by have h9 : ¬ RZ.size = 0 := fun e => hrz0 ⟨rfl, e⟩; omega)⟩
        clear hfl hdn hra0 hrz0
        rcases hsg' with rfl | rfl
        all_goals
         rcases hnz with rfl | ⟨rfl, hrze⟩
         all_goals
          go_wp2_with (first | (go_at_call 71; refine (htu _).mono ?_; rintro e w1 ⟨rfl, ⟨n1, rfl⟩⟩) | (go_at_call 72; refine (hra _).mono ?_; clear hra; rintro e w1 ⟨rfl, ⟨n2, rfl⟩⟩) | (go_at_call 73; refine (hno _).mono ?_; rintro e w1 ⟨rfl, ⟨n3, rfl⟩⟩) | (go_at_call 72; refine (hrz _).mono ?_; rintro e w1 ⟨rfl, ⟨n4, rfl⟩⟩))
          go_region_with (go_at_call 74; refine (with_any v ys (x.extract 1 x.size) _ _ (strs_below HV.out.strs (by repeat (first | exact Below.refl _ _ | refine Below.setCell ?_ (by first | exact Nat.le_refl _ | (simp; done) | (simp; omega)) _ | refine below_drewN ?_ _ | refine Below.drew ?_ | refine Below.alloc ?_ (by first | exact Nat.le_refl _ | (simp; done) | (simp; omega)) _))) (by omega)).mono ?_; rintro e w5 ⟨v5, rfl, ho5, hb5⟩)
          all_goals
           go_wp2
           go_roundw
           case rel =>
            have hlen := fun th => withL_len ys (x.extract 1 x.size) th
            refine ⟨k + 1, v5, _, rfl, by omega, by go_num, owns_strT ho5, Nat.le_trans (hlen _) (by omega), ?_, HF.out, ?_⟩
            ·refine Below.trans ?_ (hb5.mono (by have := HB.out.size; simp; omega))
             first | exact below_drewN HB.out _ | exact (below_drewN HB.out _).drew
            ·intro a0 n0 c0 e0
             have h6 := ho5.lt a0.block (by rw [e0]; rfl)
             have h7 := HB.out.size
             have h8 := row_lt hg
             simp at h6
             omega
           case measure => simp [intOf]; omega
   ·have HF : Hid (batchL rs now 0 xs = .inl (k, 4)) := by
     have hf : faultS rs x = 4 := by unfold faultS; rw [if_pos (Or.inl (by omega))]
     show _ = _
     rw [HD.out, hf]; rfl
    have hxe : x.toList.isEmpty = true := is_empty x (by omega)
    go_wp2
    go_ret3
    exact wpost_err HF.out rfl HB.out
  ·obtain rfl : k = n := by omega
   have HF : Hid (batchL rs now 0 xs = .inr ys) := by
    show _ = _
    rw [HR.out, List.drop_eq_nil_of_le (by have := HX.out; omega), batchL]
   have HG : Hid (RgAt wr b g) := rg_below hg HB.out
   have c1 : wr.cell? ⟨b, 1, none⟩ = some g.nowV := row_cell HG.out rfl
   have c2 : wr.cell? ⟨b, 2, none⟩ = some (.int .i64 g.version) := row_cell HG.out rfl
   have f1 : wr.frozen? ⟨b, 1, none⟩ = false := row_frozen HG.out _
   have f2 : wr.frozen? ⟨b, 2, none⟩ = false := row_frozen HG.out _
   have HK : Hid (∀ v' : Value, RgAt ((wr.setCell ⟨b, 1, none⟩ v').setCell ⟨b, 2, none⟩ (.int .i64 (g.version + 1))) b { g with nowV := v', version := g.version + 1 } /\ w.grownBy ((wr.setCell ⟨b, 1, none⟩ v').setCell ⟨b, 2, none⟩ (.int .i64 (g.version + 1))) (some b)) :=
    fun v' => ⟨row_set (row_set HG.out 1 v') 2 _, kept_set (kept_set ⟨HB.out.os, HB.out.tape, HB.out.output, HB.out.size, fun j hj _ => HB.out.block j hj⟩ _ _) _ _⟩
   have HS : Hid (∀ u1 u2, StrT ((wr.setCell ⟨b, 1, none⟩ u1).setCell ⟨b, 2, none⟩ u2) v ys) := by
    intro u1 u2
    rcases HV.out with h | ⟨sb, sc, cur, hv, hh, ht⟩
    ·exact Or.inl h
    ·have hne : sb ≠ b := HVB.out _ _ _ hv
     exact Or.inr ⟨sb, sc, cur, hv, by rw [Below.heap_setCell _ _ _ _ hne, Below.heap_setCell _ _ _ _ hne]; exact hh, ht⟩
   have HLN : Hid (50 + k <= 70) := by show _ <= _; omega
   clear hxs hr hnow hsz hnb hg h1
   by_cases hbig : 50 < ys.length
   ·have HP : Hid (∀ e w', e = .returned (.tuple #[.int .i64 0, .int .i64 0, .int .i64 6]) -> Below w.heap.size w w' -> WPost w b g (batchL rs now 0 xs) e w') := by
     intro e w' h1 h2
     rw [HF.out]; show if 50 < ys.length then _ else _
     rw [if_pos hbig]; exact ⟨h1, h2⟩
    rcases HV.out with ⟨rfl, rfl⟩ | ⟨sb, sc, cur, rfl, -⟩
    ·simp at hbig
    ·go_wp2
     go_ret3
     exact HP.out _ _ rfl HB.out
   ·have HP : Hid (∀ e w', (∃ v, e = .returned (.tuple #[.int .i64 (g.version + 1), .int .i64 0, .int .i64 0]) /\ RgAt w' b { g with nowV := v, version := g.version + 1 } /\ StrT w' v ys /\ w.grownBy w' (some b)) -> WPost w b g (batchL rs now 0 xs) e w') := by
     intro e w' h
     rw [HF.out]; show if 50 < ys.length then _ else _
     rw [if_neg hbig]; exact h
    rcases HV.out with ⟨rfl, rfl⟩ | ⟨sb, sc, cur, rfl, -⟩
    ·clear hbig
     go_wp2
     go_ret3
     exact HP.out _ _ ⟨_, rfl, (HK.out _).1, HS.out _ _, (HK.out _).2⟩
    ·go_wp2
     go_ret3
     exact HP.out _ _ ⟨_, rfl, (HK.out _).1, HS.out _ _, (HK.out _).2⟩
def rulesL : List ByteArray := [{ data := #[103, 114, 111, 117, 112, 35, 109, 101, 109, 98, 101, 114, 61, 116, 104, 105, 115] }, { data := #[100, 111, 99, 35, 114, 101, 97, 100, 101, 114, 61, 116, 104, 105, 115, 124, 112, 97, 114, 101, 110, 116, 45, 62, 114, 101, 97, 100, 101, 114] }, { data := #[100, 111, 99, 35, 112, 97, 114, 101, 110, 116, 61, 116, 104, 105, 115] }, { data := #[100, 111, 99, 35, 101, 100, 105, 116, 111, 114, 61, 114, 101, 97, 100, 101, 114, 38, 116, 104, 105, 115] }]
theorem rules_any (w : World) :
  Calls Tryz.prog 34 #[] w fun e w' => e = .returned (.slice (some ⟨w.heap.size, 0, none⟩) 4 4) /\ RowAt w' w.heap.size rulesL /\ Below w.heap.size w w' := by
 go_enter Tryz.func34, Tryz.ntmps34
 go_wp2
 go_ret
 refine ⟨rfl, ?_, (Below.refl _ _).alloc (Nat.le_refl _) _⟩
 unfold RowAt
 show (w.heap.push _)[w.heap.size]? = _
 rw [Array.getElem?_push_size]
 rfl
theorem refWrite_nil (b : Nat) (g : Rg) (rs : List (ByteArray × ByteArray)) (now : List ByteArray) (w : World) (hg : RgAt w b g) (hcl : g.closed = false) (hnow : StrT w g.nowV now) (hnl : now.length <= 50) (hnb : ∀ a m c, g.nowV = .slice (some a) m c -> a.block ≠ b) (hver : 0 <= g.version /\ g.version <= 4611686018427387904) :
  Calls Tryz.prog 35 #[.pointer (some ⟨b, 0, none⟩), .slice none 0 0] w fun e w' => WPost w b g (batchL rs now 0 []) e w' := by
 have h4 : w.cell? ⟨b, 4, none⟩ = some (.bool g.closed) := row_cell hg rfl
 have h1 : w.cell? ⟨b, 1, none⟩ = some g.nowV := row_cell hg rfl
 have c2 : w.cell? ⟨b, 2, none⟩ = some (.int .i64 g.version) := row_cell hg rfl
 have f1 : w.frozen? ⟨b, 1, none⟩ = false := row_frozen hg _
 have f2 : w.frozen? ⟨b, 2, none⟩ = false := row_frozen hg _
 rw [hcl] at h4
 have HP : Hid (∀ e w', (∃ v, e = .returned (.tuple #[.int .i64 (g.version + 1), .int .i64 0, .int .i64 0]) /\ RgAt w' b { g with nowV := v, version := g.version + 1 } /\ StrT w' v now /\ w.grownBy w' (some b)) -> WPost w b g (batchL rs now 0 []) e w') := by
  intro e w' h
  show if 50 < now.length then _ else _
  rw [if_neg (by omega)]; exact h
 have HK : Hid (∀ v' : Value, RgAt ((w.setCell ⟨b, 1, none⟩ v').setCell ⟨b, 2, none⟩ (.int .i64 (g.version + 1))) b { g with nowV := v', version := g.version + 1 } /\ w.grownBy ((w.setCell ⟨b, 1, none⟩ v').setCell ⟨b, 2, none⟩ (.int .i64 (g.version + 1))) (some b)) :=
  fun v' => ⟨row_set (row_set hg 1 v') 2 _, kept_set (kept_set (kept_refl _ _) _ _) _ _⟩
 have HS : Hid (∀ u1 u2, StrT ((w.setCell ⟨b, 1, none⟩ u1).setCell ⟨b, 2, none⟩ u2) g.nowV now) := by
  intro u1 u2
  rcases hnow with h | ⟨sb, sc, cur, hv, hh, ht⟩
  ·exact Or.inl h
  ·have hne : sb ≠ b := hnb _ _ _ hv
   exact Or.inr ⟨sb, sc, cur, hv, by rw [Below.heap_setCell _ _ _ _ hne, Below.heap_setCell _ _ _ _ hne]; exact hh, ht⟩
 have HV : Hid (StrT w g.nowV now) := hnow
 clear hnow hnb hg
 generalize g.nowV = nv at *
 rcases HV.out with ⟨rfl, rfl⟩ | ⟨sb, sc, cur, rfl, -⟩
 all_goals
  go_enter Tryz.func35, Tryz.ntmps35
  go_wp2
  refine wp_loop_rounds 1 ?_
  rw [rounds_succ]
  go_wp2
  go_ret3
  exact HP.out _ _ ⟨_, rfl, (HK.out _).1, HS.out _ _, (HK.out _).2⟩
end Go.Proofs.YtalmoiogbdahcaaGreat
