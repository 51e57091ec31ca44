import Derived.Test.YtalmoiogbdahcaaGreatTSetA
import Derived.Test.YtalmoiogbdahcaaGreatTGhE
import Derived.Test.YtalmoiogbdahcaaGreatYLckA
import Derived.Test.YtalmoiogbdahcaaGreatYGhD
import Derived.Test.YtalmoiogbdahcaaGreatYRefH
import Derived.Test.YtalmoiogbdahcaaGreatYRefE
namespace Go.Proofs.YtalmoiogbdahcaaGreat
set_option maxRecDepth 100000
set_option maxHeartbeats 8000000
open Go.RowKit Go.MuLone
theorem batch_at (rs : List (ByteArray × ByteArray)) : ∀ (xs now : List ByteArray) (i k : Nat) (x : ByteArray), (∀ (j : Nat) (y : ByteArray), j < k -> xs[j]? = some y -> faultS rs y = 0) -> xs[k]? = some x -> faultS rs x ≠ 0 -> batchL rs now i xs = .inl (i + k, faultS rs x) := by
 intro xs
 induction xs with
 | nil => intro now i k x _ hx; simp at hx
 | cons y xs ih =>
  intro now i k x h hx hf
  rw [batchL]
  cases k with
  | zero => simp at hx; subst hx; rw [if_neg hf]; rfl
  | succ k =>
   rw [if_pos (h 0 y (by omega) rfl), ih _ (i + 1) k x (fun j z hj hz => h (j + 1) z (by omega) (by simpa using hz)) (by simpa using hx) hf]
   congr 2; omega
theorem batch_ok (rs : List (ByteArray × ByteArray)) : ∀ (xs now : List ByteArray) (i : Nat), (∀ (j : Nat) (y : ByteArray), xs[j]? = some y -> faultS rs y = 0) -> batchL rs now i xs = .inr (xs.foldl doneS now) := by
 intro xs
 induction xs with
 | nil => intro now i _; rfl
 | cons y xs ih =>
  intro now i h
  rw [batchL, if_pos (h 0 y rfl), ih _ (i + 1) (fun j z hz => h (j + 1) z (by simpa using hz))]; rfl
def PWPost (w : World) (b : Nat) (g : Pg) (r : Sum (Nat × Int) (List ByteArray)) (e : Ending) (w' : World) : Prop :=
 w.grownBy w' (some b) /\ match r with
 | .inl (i, f) => e = .returned (.tuple #[.int .i64 0, .int .i64 i, .int .i64 f]) /\ PgAt w' b g
 | .inr ys => if 50 < ys.length then e = .returned (.tuple #[.int .i64 0, .int .i64 0, .int .i64 6]) /\ PgAt w' b g
   else ∃ v, e = .returned (.tuple #[.int .i64 (g.ver + 1), .int .i64 0, .int .i64 0]) /\ PgAt w' b { g with tv := v, ver := g.ver + 1 } /\ w'.ownsRow w.heap.size 9 1 v ys.length (strV ys)
theorem pg_lock {w : World} {b : Nat} {g : Pg} (h : PgAt w b g) (n : Int) : PgAt (w.setCell ⟨b, 0, none⟩ (.int .i32 n)) b { g with lk := n } := row_set h 0 _
theorem pg_below {w w' : World} {b : Nat} {g : Pg} (h : PgAt w b g) (hb : Below w.heap.size w w') : PgAt w' b g := by
 unfold PgAt at h ⊢; rw [hb.block b (row_lt h)]; exact h
theorem strs_kept {w w' : World} {v : Value} {xs : List ByteArray} {b : Nat} (h : StrsAt w v xs) (hn : ∀ a n c, v = .slice (some a) n c -> a.block ≠ b) (hk : w.grownBy w' (some b)) : StrsAt w' v xs := by
 rcases h with h | ⟨bk, off, cap, rfl, hc⟩
 ·exact Or.inl h
 ·refine Or.inr ⟨bk, off, cap, rfl, fun i x hx => ?_⟩
  have h1 := hc i x hx
  rw [← h1]
  exact (kcell hk).1 bk (off + i) (cell_lt h1) (hn _ _ _ rfl)
theorem map_kept {w w' : World} {Gd : Value -> Prop} {mb b : Nat} {m : List (Value × Value)} {cs : List Value} {t : TypeId} (h : MapAt w Gd mb m) (hb : w.heap[b]? = some (.cells cs.toArray t (0, 0))) (hk : w.grownBy w' (some b)) : MapAt w' Gd mb m := by
 refine h.move (hk.block mb h.lt ?_)
 intro e
 injection e with e
 subst e
 obtain ⟨es, c, h1, -⟩ := h
 rw [h1] at hb; cases hb
theorem ghWrite_open (b : Nat) (g : Pg) (m : List (Value × Value)) (rs : List (ByteArray × ByteArray)) (now xs : List ByteArray) (bb off cap : Nat) (w : World) (hg : PgAt w b g) (hlk : g.lk = 0) (hcl : g.cl = false) (ha : AllWays m) (hm : MapAt w HeadG g.mb m) (hf : ∀ s, faultG m s = faultS rs s)
  (hnow : StrsAt w g.tv now) (hs : Sorted now) (hnl : now.length <= 50) (hnb : ∀ a n c, g.tv = .slice (some a) n c -> a.block ≠ b)
  (hxs : ∀ i x, xs[i]? = some x -> w.cell? ⟨bb, off + i, none⟩ = some (.string x)) (hbb : bb ≠ b) (hxn : xs.length <= 20) (hsz : ∀ x ∈ xs, x.size <= 140737488355328) (hver : 0 <= g.ver /\ g.ver <= 4611686018427387904) :
  Calls Tryz.prog 24 #[.pointer (some ⟨b, 0, none⟩), .slice (some ⟨bb, off, none⟩) xs.length cap] w (PWPost w b g (batchL rs now 0 xs)) := by
 obtain ⟨lk, mb, tv, ver, dk, cl⟩ := g
 dsimp only at hlk hcl hm hnow hnb hver
 subst hlk hcl
 obtain ⟨n, hn⟩ : ∃ n, xs.length = n := ⟨_, rfl⟩
 have HX : Hid (xs.length = n) := hn
 rw [hn] at hxn ⊢
 clear hn
 have h0 := row_cell hg (j := 0) rfl
 have f0 := row_frozen hg 0
 have t20 : decide (20 < (n : Int)) = false := by simp; omega
 go_enter_defers Tryz.func24, Tryz.ntmps24
 go_wp2_with (go_at_call 51; refine (lock_free Tryz.muLib ⟨b, 0, none⟩ _ h0 f0).mono ?_; rintro e w1 ⟨rfl, hw1⟩; have hG1 : PgAt w1 b ⟨1, mb, tv, ver, dk, false⟩ := (by rw [hw1]; exact pg_lock hg 1); have hk1 : w.grownBy w1 (some b) := (by rw [hw1]; exact kept_set (kept_refl _ _) _ _); clear hw1; have c5 := row_cell hG1 (j := 6) rfl; have c3 := row_cell hG1 (j := 3) rfl; have c4 := row_cell hG1 (j := 4) rfl; have z3 := row_frozen hG1 3; have z4 := row_frozen hG1 4)
 have hm1 : MapAt w1 HeadG mb m := map_kept hm hg hk1
 have hnow1 : StrsAt w1 tv now := strs_kept hnow hnb hk1
 have hxs1 : ∀ i x, xs[i]? = some x -> w1.cell? ⟨bb, off + i, none⟩ = some (.string x) := fun i x hx => ((kcell hk1).1 bb (off + i) (cell_lt (hxs i x hx)) hbb).trans (hxs i x hx)
 have HW : Hid (PgAt w1 b ⟨1, mb, tv, ver, dk, false⟩ /\ w.grownBy w1 (some b) /\ MapAt w1 HeadG mb m /\ StrsAt w1 tv now /\ ∀ i x, xs[i]? = some x -> w1.cell? ⟨bb, off + i, none⟩ = some (.string x)) := ⟨hG1, hk1, hm1, hnow1, hxs1⟩
 clear hG1 hk1 hm1 hnow1 hxs1 hm hnow hxs hg h0 f0 t20 c3 c4 c5 z3 z4
 go_loopw [27] (fun i wr => ∃ (k : Nat), k <= n /\ i = .int .i64 k /\ Below w1.heap.size w1 wr /\ ∀ (j : Nat) (y : ByteArray), j < k -> xs[j]? = some y -> faultS rs y = 0) (fun i _ => n - (intOf i).toNat)
 case atStart => exact ⟨0, Nat.zero_le _, rfl, Below.refl _ _, fun j y hj => by omega⟩
 case round =>
  obtain ⟨k, hk, rfl, hb, hok⟩ := hrel
  have HOK : Hid (∀ (j : Nat) (y : ByteArray), j < k -> xs[j]? = some y -> faultS rs y = 0) := hok
  have HB : Hid (Below w1.heap.size w1 wr) := hb
  have HGR : Hid (PgAt wr b ⟨1, mb, tv, ver, dk, false⟩) := pg_below HW.out.1 hb
  clear hok hb
  by_cases hlt : k < n
  ·have hkx : k < xs.length := by have := HX.out; omega
   obtain ⟨x, hx⟩ : ∃ x, xs[k] = x := ⟨_, rfl⟩
   have hkk : xs[k]? = some x := by rw [List.getElem?_eq_getElem hkx, hx]
   have hc0 := HW.out.2.2.2.2 k x hkk
   have hck : wr.cell? ⟨bb, off + k, none⟩ = some (.string x) := by rw [← hc0]; exact HB.out.cell (cell_lt hc0)
   have HFA : Hid (Calls Tryz.prog 53 #[.pointer (some ⟨b, 0, none⟩), .string x] wr fun e w' => e = .returned (.int .i64 (faultG m x)) /\ Below wr.heap.size wr w') := faultOf_any b _ m ha x (hsz x (List.mem_of_getElem? hkk)) wr HGR.out (HW.out.2.2.1.move (HB.out.block _ HW.out.2.2.1.lt))
   rw [hf x] at HFA
   have HKK : Hid (xs[k]? = some x) := hkk
   clear hkx hx hkk hc0
   by_cases hz : faultS rs x = 0
   ·have HOK2 : Hid (∀ (j : Nat) (y : ByteArray), j < k + 1 -> xs[j]? = some y -> faultS rs y = 0) := by
     intro j y hj hy
     by_cases e : j = k
     ·subst e; rw [HKK.out] at hy; injection hy with hy; subst hy; exact hz
     ·exact HOK.out j y (by omega) hy
    rw [hz] at HFA
    clear hz
    go_wp2_with (go_at_call 53; refine HFA.out.mono ?_; rintro e w2 ⟨rfl, hb2⟩)
    go_roundw
    case rel => exact ⟨k + 1, by omega, by go_num, HB.out.trans (hb2.mono HB.out.size), HOK2.out⟩
    case measure => simp [intOf]; omega
   ·have HBT : Hid (batchL rs now 0 xs = .inl (k, faultS rs x)) := by
     show _ = _
     rw [batch_at rs xs now 0 k x HOK.out HKK.out hz, Nat.zero_add]
    obtain ⟨f, hfx⟩ : ∃ f, faultS rs x = f := ⟨_, rfl⟩
    rw [hfx] at hz HFA HBT
    have hz2 : (f != 0) = true := by simpa using hz
    rw [HBT.out]
    clear hz hfx HBT
    go_wp2_with (go_at_call 53; refine HFA.out.mono ?_; rintro e w2 ⟨rfl, hb2⟩)
    have hG2 := pg_below HGR.out hb2
    refine leaves_cons (f := 52) (args := #[.pointer (some ⟨b, 0, none⟩)]) (by simp) (by simp [go_sem]) ?_
    refine (unlock_deferred Tryz.muLib ⟨b, 0, none⟩ .returning _ (row_cell hG2 (j := 0) rfl) (row_frozen hG2 0)).mono ?_
    rintro e u' w3 ⟨rfl, rfl, rfl⟩
    refine ⟨.tuple #[.int .i64 0, .int .i64 k, .int .i64 f], by simp [results, Tryz.results24, go_sem], kept_set (kept_trans HW.out.2.1 (kept_below (HB.out.trans (hb2.mono HB.out.size)))) _ _, rfl, pg_lock hG2 0⟩
  ·obtain rfl : k = n := by omega
   have HBT : Hid (batchL rs now 0 xs = .inr (xs.foldl doneS now)) := batch_ok rs xs now 0 fun j y hy => HOK.out j y (by have := (List.getElem?_eq_some_iff.1 hy).1; have := HX.out; omega) hy
   have HCH : Hid (Calls Tryz.prog 54 #[tv, .slice (some ⟨bb, off, none⟩) k cap] wr fun e w' => ∃ v, e = .returned v /\ w'.ownsRow wr.heap.size 9 1 v (xs.foldl doneS now).length (strV (xs.foldl doneS now)) /\ Below wr.heap.size wr w') := by
    have := changed_any tv now xs bb off cap wr (strs_below HW.out.2.2.2.1 HB.out) hs hnl (fun i x hx => (HB.out.cell (cell_lt (HW.out.2.2.2.2 i x hx))).trans (HW.out.2.2.2.2 i x hx)) (by have := HX.out; omega) hsz (fun x hx => by
     obtain ⟨j, hj⟩ := List.mem_iff_getElem?.1 hx
     have hz := HOK.out j x (by have := (List.getElem?_eq_some_iff.1 hj).1; have := HX.out; omega) hj
     unfold faultS at hz
     by_cases h : x.size = 0 \/ (byteAt x 0 ≠ 43 /\ byteAt x 0 ≠ 45)
     ·rw [if_pos h] at hz; cases hz
     ·refine ⟨fun e => h (Or.inl e), ?_⟩
      by_cases h43 : byteAt x 0 = 43
      ·exact Or.inl h43
      ·right
       by_cases h45 : byteAt x 0 = 45
       ·exact h45
       ·exact absurd (Or.inr ⟨h43, h45⟩) h)
    rw [HX.out] at this
    exact this
   rw [HBT.out]
   have c3 := row_cell HGR.out (j := 3) rfl
   have c4 := row_cell HGR.out (j := 4) rfl
   have hl70 : (xs.foldl doneS now).length <= 1000 := by
    have key : ∀ (l acc : List ByteArray), (l.foldl doneS acc).length <= acc.length + l.length := by
     intro l
     induction l with
     | nil => intro acc; simp
     | cons y l ih => intro acc; have := ih (doneS acc y); have h2 := withL_len acc (y.extract 1 y.size) (decide (byteAt y 0 = 43)); simp only [List.foldl_cons, List.length_cons]; unfold doneS at this ⊢; omega
    have := key xs now
    have := HX.out
    omega
   generalize xs.foldl doneS now = ys at *
   by_cases h50 : 50 < ys.length
   ·go_wp2_with (go_at_call 54; refine HCH.out.mono ?_; rintro e w5 ⟨v5, rfl, ho5, hb5⟩; obtain ⟨vx, vc, rfl⟩ := owns_form ho5; have hG5 := pg_below HGR.out hb5)
    refine leaves_cons (f := 52) (args := #[.pointer (some ⟨b, 0, none⟩)]) (by simp) (by simp [go_sem]) ?_
    refine (unlock_deferred Tryz.muLib ⟨b, 0, none⟩ .returning _ (row_cell hG5 (j := 0) rfl) (row_frozen hG5 0)).mono ?_
    rintro e u' w6 ⟨rfl, rfl, rfl⟩
    refine ⟨.tuple #[.int .i64 0, .int .i64 0, .int .i64 6], by simp [results, Tryz.results24, go_sem], ?_⟩
    rw [HBT.out]
    refine ⟨kept_set (kept_trans HW.out.2.1 (kept_below (HB.out.trans (hb5.mono HB.out.size)))) _ _, ?_⟩
    show if 50 < ys.length then _ else _
    rw [if_pos h50]
    exact ⟨rfl, pg_lock hG5 0⟩
   ·obtain ⟨v1, v2⟩ := hver
    go_wp2_with (go_at_call 54; refine HCH.out.mono ?_; rintro e w5 ⟨v5, rfl, ho5, hb5⟩; obtain ⟨vx, vc, rfl⟩ := owns_form ho5; have hG5 := pg_below HGR.out hb5; have d3 := row_cell hG5 (j := 3) rfl; have d4 := row_cell hG5 (j := 4) rfl; have z3 := row_frozen hG5 3; have z4 := row_frozen hG5 4)
    have hG7 : PgAt ((w5.setCell ⟨b, 3, none⟩ (.slice vx ys.length vc)).setCell ⟨b, 4, none⟩ (.int .i64 (ver + 1))) b ⟨1, mb, .slice vx ys.length vc, ver + 1, dk, false⟩ := row_set (row_set hG5 3 _) 4 _
    refine leaves_cons (f := 52) (args := #[.pointer (some ⟨b, 0, none⟩)]) (by simp) (by simp [go_sem]) ?_
    refine (unlock_deferred Tryz.muLib ⟨b, 0, none⟩ .returning _ (row_cell hG7 (j := 0) rfl) (row_frozen hG7 0)).mono ?_
    rintro e u' w6 ⟨rfl, rfl, rfl⟩
    refine ⟨.tuple #[.int .i64 (ver + 1), .int .i64 0, .int .i64 0], by simp [results, Tryz.results24, go_sem], ?_⟩
    rw [HBT.out]
    refine ⟨kept_set (kept_set (kept_set (kept_trans HW.out.2.1 (kept_below (HB.out.trans (hb5.mono HB.out.size)))) _ _) _ _) _ _, ?_⟩
    show if 50 < ys.length then _ else _
    rw [if_neg h50]
    refine ⟨_, rfl, pg_lock hG7 0, ?_⟩
    have hbl : b < wr.heap.size := row_lt HGR.out
    have hws : w.heap.size <= wr.heap.size := Nat.le_trans HW.out.2.1.size HB.out.size
    refine owns_to (owns_base ho5 hws) fun g hg => ?_
    have hge := (owns_lt ho5 g hg).2.1
    have hne : ¬ g = b := by omega
    rw [Below.heap_setCell _ _ _ _ hne, Below.heap_setCell _ _ _ _ hne, Below.heap_setCell _ _ _ _ hne]
theorem snapshot_any (b : Nat) (g : Pg) (w : World) (hg : PgAt w b g) (hlk : g.lk = 0) :
  Calls Tryz.prog 50 #[.pointer (some ⟨b, 0, none⟩)] w fun e w' => e = .returned g.tv /\ PgAt w' b g /\ w.grownBy w' (some b) := by
 obtain ⟨lk, mb, tv, ver, dk, cl⟩ := g
 dsimp only at hlk
 subst hlk
 have h0 := row_cell hg (j := 0) rfl
 have f0 := row_frozen hg 0
 go_enter_defers Tryz.func50, Tryz.ntmps50
 go_wp2_with (go_at_call 51; refine (lock_free Tryz.muLib ⟨b, 0, none⟩ _ h0 f0).mono ?_; rintro e w1 ⟨rfl, hw1⟩; have hG1 : PgAt w1 b ⟨1, mb, tv, ver, dk, cl⟩ := (by rw [hw1]; exact pg_lock hg 1); have hk1 : w.grownBy w1 (some b) := (by rw [hw1]; exact kept_set (kept_refl _ _) _ _); clear hw1; have c3 := row_cell hG1 (j := 3) rfl)
 refine leaves_cons (f := 52) (args := #[.pointer (some ⟨b, 0, none⟩)]) (by simp) (by simp [go_sem]) ?_
 refine (unlock_deferred Tryz.muLib ⟨b, 0, none⟩ .returning _ (row_cell hG1 (j := 0) rfl) (row_frozen hG1 0)).mono ?_
 rintro e u' w6 ⟨rfl, rfl, rfl⟩
 exact ⟨_, results_tmp rfl _ _ _, rfl, pg_lock hG1 0, kept_set hk1 _ _⟩
open Go.RowKit
def mutT (t : TypeId) : Bool := t == 61 || t == 28 || t == 66
def gateT (t : TypeId) : Bool := t == 99 || t == 124
def notMut : Obj -> Prop
 | .cells _ t _ => mutT t = false
 | _ => True
def notGate : Obj -> Prop
 | .cells _ t _ => gateT t = false
 | _ => True
structure SK (X : Nat -> Prop) (w w' : World) : Prop where
 size : w.heap.size <= w'.heap.size
 block : ∀ (k : Nat) (o : Obj), w.heap[k]? = some o -> notMut o -> (notGate o \/ ¬ X k) -> w'.heap[k]? = some o
theorem SK.gate {X : Nat -> Prop} {w w' : World} {b : Nat} {cs : List Value} {t : TypeId} (h : w.grownBy w' (some b)) (hb : w.heap[b]? = some (.cells cs.toArray t (0, 0))) (ht : gateT t = true) (hx : X b) : SK X w w' := by
 refine ⟨h.size, fun k o ho _ h2 => ?_⟩
 by_cases e : k = b
 ·subst e
  rw [hb] at ho
  injection ho with ho
  subst ho
  rcases h2 with h2 | h2
  ·have : gateT t = false := h2
   rw [ht] at this; cases this
  ·exact absurd hx h2
 ·rw [h.block k (row_lt ho) (by simpa using e)]; exact ho
theorem SK.way {X : Nat -> Prop} {w w' : World} (h : SK X w w') {k : Nat} {cur : Array Value} (hk : w.heap[k]? = some (.cells cur 106 (0, 0))) : w'.heap[k]? = w.heap[k]? := by
 rw [hk]; exact h.block k _ hk (by show mutT 106 = false; decide) (Or.inl (by show gateT 106 = false; decide))
theorem SK.mapAt {X : Nat -> Prop} {w w' : World} (h : SK X w w') {Gd : Value -> Prop} {mb : Nat} {m : List (Value × Value)} (hm : MapAt w Gd mb m) : MapAt w' Gd mb m := by
 obtain ⟨es, c, h1, h2⟩ := hm
 exact ⟨es, c, h.block mb _ h1 trivial (Or.inl trivial), h2⟩
theorem SK.rmap {X : Nat -> Prop} {w w' : World} (h : SK X w w') {lo : Nat} {xs : List ByteArray} {m : List (Value × Value)} (hs : RMap w lo xs m) : RMap w' lo xs m := hs.move fun _ _ _ hk => h.way hk
def goodT (rs : List (ByteArray × ByteArray)) (s : ByteArray) : Prop := tupleS s = true /\ (ruleL rs (cutA s 64)).size ≠ 0 /\ (nodeS (cutZ s 64) = true -> (ruleL rs (cutZ s 64)).size ≠ 0)
theorem with_mem (s : ByteArray) : ∀ (xs : List ByteArray) (q : Bool × List ByteArray) (y : ByteArray), y ∈ (xs.foldl (withStep s) q).2 -> y ∈ q.2 \/ y ∈ xs \/ y = s := by
 intro xs
 induction xs with
 | nil => intro q y h; exact Or.inl h
 | cons x xs ih =>
  intro q y h
  rw [List.foldl_cons] at h
  rcases ih _ _ h with h | h | h
  ·unfold withStep at h
   dsimp only at h
   rcases List.mem_append.1 h with h | h
   ·split at h
    ·rcases List.mem_append.1 h with h | h
     ·exact Or.inl h
     ·exact Or.inr (Or.inr (List.mem_singleton.1 h))
    ·exact Or.inl h
   ·split at h
    ·exact Or.inr (Or.inl (by rw [List.mem_singleton.1 h]; exact List.mem_cons_self ..))
    ·cases h
  ·exact Or.inr (Or.inl (List.mem_cons_of_mem _ h))
  ·exact Or.inr (Or.inr h)
theorem withL_mem {xs : List ByteArray} {s : ByteArray} {b : Bool} {y : ByteArray} (h : y ∈ withL xs s b) : y ∈ xs \/ y = s := by
 unfold withL at h
 rcases List.mem_append.1 h with h | h
 ·rcases with_mem s xs _ y h with h | h | h
  ·cases h
  ·exact Or.inl h
  ·exact Or.inr h
 ·split at h
  ·exact Or.inr (List.mem_singleton.1 h)
  ·cases h
theorem faultS_good {rs : List (ByteArray × ByteArray)} {s : ByteArray} (h : faultS rs s = 0) : goodT rs (s.extract 1 s.size) := by
 unfold faultS at h
 split at h
 ·cases h
 ·split at h
  ·cases h
  ·rename_i h2
   split at h
   ·cases h
   ·rename_i h3
    refine ⟨by simpa using h2, fun e => h3 (Or.inl e), fun e1 e2 => h3 (Or.inr ⟨e1, e2⟩)⟩
theorem batch_good (rs : List (ByteArray × ByteArray)) : ∀ (xs now : List ByteArray) (i : Nat) (ys : List ByteArray), (∀ s ∈ now, goodT rs s) -> batchL rs now i xs = .inr ys -> ∀ s ∈ ys, goodT rs s := by
 intro xs
 induction xs with
 | nil => intro now i ys h e; injection e with e; subst e; exact h
 | cons s l ih =>
  intro now i ys h e
  unfold batchL at e
  split at e
  ·rename_i hf
   refine ih _ _ _ ?_ e
   intro y hy
   rcases withL_mem hy with h1 | h1
   ·exact h y h1
   ·rw [h1]; exact faultS_good hf
  ·cases e
theorem strT_ne {w : World} {v : Value} {xs : List ByteArray} {b : Nat} {cs : Array Value} {t : TypeId} (h : StrT w v xs) (hb : w.heap[b]? = some (.cells cs t (0, 0))) (ht : t ≠ 9) : ∀ a n c, v = .slice (some a) n c -> a.block ≠ b := by
 intro a n c e hab
 rcases h with ⟨rfl, -⟩ | ⟨b', cap, cur, rfl, hh, -⟩
 ·cases e
 ·injection e with e1 e2 e3
  injection e1 with e1
  subst e1
  dsimp only at hab
  subst hab
  rw [hb] at hh
  injection hh with hh
  injection hh with _ hh
  exact ht hh
structure OpR where
 k : Int
 g : Int
 n : Int
 m : Int
 s : ByteArray
 tv : Value
 xs : List ByteArray
structure KG (w : World) (B gb : Nat) (g : Pg) (m : List (Value × Value)) (lo : Nat) (xs now : List ByteArray) : Prop where
 pg : PgAt w gb g
 map : MapAt w HeadG g.mb m
 rmap : RMap w lo xs m
 okx : openErr xs = none
 few : xs.length <= 12
 tv : StrT w g.tv now
 sorted : Sorted now
 nl : now.length <= 50
 tup : ∀ s ∈ now, goodT (ruleOfs xs) s
 lk : g.lk = 0
 cl : g.cl = false
 ver0 : 0 <= g.ver
 verV : g.ver <= 1000000
 gB : B <= gb
def onlyB (gb k : Nat) : Prop := k = gb
end Go.Proofs.YtalmoiogbdahcaaGreat
