import Derived.Test.YtalmoiogbdahcaaGreatYRefE
import Derived.Test.YtalmoiogbdahcaaGreatYRefH
import Derived.Test.YtalmoiogbdahcaaGreatYGhD
import Derived.Test.YtalmoiogbdahcaaGreatYGhE
import Derived.Test.YtalmoiogbdahcaaGreatYLckA
namespace Go.Proofs.YtalmoiogbdahcaaGreat
set_option maxRecDepth 100000
set_option maxHeartbeats 8000000
open Go.RowKit Go.MuLone
theorem batch_at (rs : List (ByteArray × ByteArray)) : ∀ (xs now : List ByteArray) (i k : Nat) (x : ByteArray), (∀ (j : Nat) (y : ByteArray), j < k -> xs[j]? = some y -> faultS rs y = 0) -> xs[k]? = some x -> faultS rs x ≠ 0 -> batchL rs now i xs = .inl (i + k, faultS rs x) := by
 intro xs
 induction xs with
 | nil => intro now i k x _ hx; simp at hx
 | cons y xs ih =>
  intro now i k x h hx hf
  rw [batchL]
  cases k with
  | zero => simp at hx; subst hx; rw [if_neg hf]; rfl
  | succ k =>
   rw [if_pos (h 0 y (by omega) rfl), ih _ (i + 1) k x (fun j z hj hz => h (j + 1) z (by omega) (by simpa using hz)) (by simpa using hx) hf]
   congr 2; omega
theorem batch_ok (rs : List (ByteArray × ByteArray)) : ∀ (xs now : List ByteArray) (i : Nat), (∀ (j : Nat) (y : ByteArray), xs[j]? = some y -> faultS rs y = 0) -> batchL rs now i xs = .inr (xs.foldl doneS now) := by
 intro xs
 induction xs with
 | nil => intro now i _; rfl
 | cons y xs ih =>
  intro now i h
  rw [batchL, if_pos (h 0 y rfl), ih _ (i + 1) (fun j z hz => h (j + 1) z (by simpa using hz))]; rfl
def PWPost (w : World) (b : Nat) (g : Pg) (r : Sum (Nat × Int) (List ByteArray)) (e : Ending) (w' : World) : Prop :=
 w.grownBy w' (some b) /\ match r with
 | .inl (i, f) => e = .returned (.tuple #[.int .i64 0, .int .i64 i, .int .i64 f]) /\ PgAt w' b g
 | .inr ys => if 50 < ys.length then e = .returned (.tuple #[.int .i64 0, .int .i64 0, .int .i64 6]) /\ PgAt w' b g
   else ∃ v, e = .returned (.tuple #[.int .i64 (g.ver + 1), .int .i64 0, .int .i64 0]) /\ PgAt w' b { g with tv := v, ver := g.ver + 1 } /\ w'.ownsRow w.heap.size 9 1 v ys.length (strV ys)
theorem pg_lock {w : World} {b : Nat} {g : Pg} (h : PgAt w b g) (n : Int) : PgAt (w.setCell ⟨b, 0, none⟩ (.int .i32 n)) b { g with lk := n } := row_set h 0 _
theorem pg_below {w w' : World} {b : Nat} {g : Pg} (h : PgAt w b g) (hb : Below w.heap.size w w') : PgAt w' b g := by
 unfold PgAt at h ⊢; rw [hb.block b (row_lt h)]; exact h
theorem strs_kept {w w' : World} {v : Value} {xs : List ByteArray} {b : Nat} (h : StrsAt w v xs) (hn : ∀ a n c, v = .slice (some a) n c -> a.block ≠ b) (hk : w.grownBy w' (some b)) : StrsAt w' v xs := by
 rcases h with h | ⟨bk, off, cap, rfl, hc⟩
 ·exact Or.inl h
 ·refine Or.inr ⟨bk, off, cap, rfl, fun i x hx => ?_⟩
  have h1 := hc i x hx
  rw [← h1]
  exact (kcell hk).1 bk (off + i) (cell_lt h1) (hn _ _ _ rfl)
theorem map_kept {w w' : World} {Gd : Value -> Prop} {mb b : Nat} {m : List (Value × Value)} {cs : List Value} {t : TypeId} (h : MapAt w Gd mb m) (hb : w.heap[b]? = some (.cells cs.toArray t (0, 0))) (hk : w.grownBy w' (some b)) : MapAt w' Gd mb m := by
 refine h.move (hk.block mb h.lt ?_)
 intro e
 injection e with e
 subst e
 obtain ⟨es, c, h1, -⟩ := h
 rw [h1] at hb; cases hb
theorem ghWrite_open (b : Nat) (g : Pg) (m : List (Value × Value)) (rs : List (ByteArray × ByteArray)) (now xs : List ByteArray) (bb off cap : Nat) (w : World) (hg : PgAt w b g) (hlk : g.lk = 0) (hcl : g.cl = false) (ha : AllWays m) (hm : MapAt w HeadG g.mb m) (hf : ∀ s, faultG m s = faultS rs s)
  (hnow : StrsAt w g.tv now) (hs : Sorted now) (hnl : now.length <= 50) (hnb : ∀ a n c, g.tv = .slice (some a) n c -> a.block ≠ b)
  (hxs : ∀ i x, xs[i]? = some x -> w.cell? ⟨bb, off + i, none⟩ = some (.string x)) (hbb : bb ≠ b) (hxn : xs.length <= 20) (hsz : ∀ x ∈ xs, x.size <= 140737488355328) (hver : 0 <= g.ver /\ g.ver <= 4611686018427387904) :
  Calls Tryz.prog 24 #[.pointer (some ⟨b, 0, none⟩), .slice (some ⟨bb, off, none⟩) xs.length cap] w (PWPost w b g (batchL rs now 0 xs)) := by
 obtain ⟨lk, mb, tv, ver, dk, cl⟩ := g
 dsimp only at hlk hcl hm hnow hnb hver
 subst hlk hcl
 obtain ⟨n, hn⟩ : ∃ n, xs.length = n := ⟨_, rfl⟩
 have HX : Hid (xs.length = n) := hn
 rw [hn] at hxn ⊢
 clear hn
 have h0 := row_cell hg (j := 0) rfl
 have f0 := row_frozen hg 0
 have t20 : decide (20 < (n : Int)) = false := by simp; omega
 go_enter_defers Tryz.func24, Tryz.ntmps24
 go_wp2_with (go_at_call 51; refine (lock_free Tryz.muLib ⟨b, 0, none⟩ _ h0 f0).mono ?_; rintro e w1 ⟨rfl, hw1⟩; have hG1 : PgAt w1 b ⟨1, mb, tv, ver, dk, false⟩ := (by rw [hw1]; exact pg_lock hg 1); have hk1 : w.grownBy w1 (some b) := (by rw [hw1]; exact kept_set (kept_refl _ _) _ _); clear hw1; have c5 := row_cell hG1 (j := 6) rfl; have c3 := row_cell hG1 (j := 3) rfl; have c4 := row_cell hG1 (j := 4) rfl; have z3 := row_frozen hG1 3; have z4 := row_frozen hG1 4)
 have hm1 : MapAt w1 HeadG mb m := map_kept hm hg hk1
 have hnow1 : StrsAt w1 tv now := strs_kept hnow hnb hk1
 have hxs1 : ∀ i x, xs[i]? = some x -> w1.cell? ⟨bb, off + i, none⟩ = some (.string x) := fun i x hx => ((kcell hk1).1 bb (off + i) (cell_lt (hxs i x hx)) hbb).trans (hxs i x hx)
 have HW : Hid (PgAt w1 b ⟨1, mb, tv, ver, dk, false⟩ /\ w.grownBy w1 (some b) /\ MapAt w1 HeadG mb m /\ StrsAt w1 tv now /\ ∀ i x, xs[i]? = some x -> w1.cell? ⟨bb, off + i, none⟩ = some (.string x)) := ⟨hG1, hk1, hm1, hnow1, hxs1⟩
 clear hG1 hk1 hm1 hnow1 hxs1 hm hnow hxs hg h0 f0 t20 c3 c4 c5 z3 z4
 go_loopw [27] (fun i wr => ∃ (k : Nat), k <= n /\ i = .int .i64 k /\ Below w1.heap.size w1 wr /\ ∀ (j : Nat) (y : ByteArray), j < k -> xs[j]? = some y -> faultS rs y = 0) (fun i _ => n - (intOf i).toNat)
 case atStart => exact ⟨0, Nat.zero_le _, rfl, Below.refl _ _, fun j y hj => by omega⟩
 case round =>
  obtain ⟨k, hk, rfl, hb, hok⟩ := hrel
  have HOK : Hid (∀ (j : Nat) (y : ByteArray), j < k -> xs[j]? = some y -> faultS rs y = 0) := hok
  have HB : Hid (Below w1.heap.size w1 wr) := hb
  have HGR : Hid (PgAt wr b ⟨1, mb, tv, ver, dk, false⟩) := pg_below HW.out.1 hb
  clear hok hb
  by_cases hlt : k < n
  ·have hkx : k < xs.length := by have := HX.out; omega
   obtain ⟨x, hx⟩ : ∃ x, xs[k] = x := ⟨_, rfl⟩
   have hkk : xs[k]? = some x := by rw [List.getElem?_eq_getElem hkx, hx]
   have hc0 := HW.out.2.2.2.2 k x hkk
   have hck : wr.cell? ⟨bb, off + k, none⟩ = some (.string x) := by rw [← hc0]; exact HB.out.cell (cell_lt hc0)
   have HFA : Hid (Calls Tryz.prog 53 #[.pointer (some ⟨b, 0, none⟩), .string x] wr fun e w' => e = .returned (.int .i64 (faultG m x)) /\ Below wr.heap.size wr w') := faultOf_any b _ m ha x (hsz x (List.mem_of_getElem? hkk)) wr HGR.out (HW.out.2.2.1.move (HB.out.block _ HW.out.2.2.1.lt))
   rw [hf x] at HFA
   have HKK : Hid (xs[k]? = some x) := hkk
   clear hkx hx hkk hc0
   by_cases hz : faultS rs x = 0
   ·have HOK2 : Hid (∀ (j : Nat) (y : ByteArray), j < k + 1 -> xs[j]? = some y -> faultS rs y = 0) := by
     intro j y hj hy
     by_cases e : j = k
     ·subst e; rw [HKK.out] at hy; injection hy with hy; subst hy; exact hz
     ·exact HOK.out j y (by omega) hy
    rw [hz] at HFA
    clear hz
    go_wp2_with (go_at_call 53; refine HFA.out.mono ?_; rintro e w2 ⟨rfl, hb2⟩)
    go_roundw
    case rel => exact ⟨k + 1, by omega, by go_num, HB.out.trans (hb2.mono HB.out.size), HOK2.out⟩
    case measure => simp [intOf]; omega
   ·have HBT : Hid (batchL rs now 0 xs = .inl (k, faultS rs x)) := by
     show _ = _
     rw [batch_at rs xs now 0 k x HOK.out HKK.out hz, Nat.zero_add]
    obtain ⟨f, hfx⟩ : ∃ f, faultS rs x = f := ⟨_, rfl⟩
    rw [hfx] at hz HFA HBT
    have hz2 : (f != 0) = true := by simpa using hz
    rw [HBT.out]
    clear hz hfx HBT
    go_wp2_with (go_at_call 53; refine HFA.out.mono ?_; rintro e w2 ⟨rfl, hb2⟩)
    have hG2 := pg_below HGR.out hb2
    refine leaves_cons (f := 52) (args := #[.pointer (some ⟨b, 0, none⟩)]) (by simp) (by simp [go_sem]) ?_
    refine (unlock_deferred Tryz.muLib ⟨b, 0, none⟩ .returning _ (row_cell hG2 (j := 0) rfl) (row_frozen hG2 0)).mono ?_
    rintro e u' w3 ⟨rfl, rfl, rfl⟩
    refine ⟨.tuple #[.int .i64 0, .int .i64 k, .int .i64 f], by simp [results, Tryz.results24, go_sem], kept_set (kept_trans HW.out.2.1 (kept_below (HB.out.trans (hb2.mono HB.out.size)))) _ _, rfl, pg_lock hG2 0⟩
  ·obtain rfl : k = n := by omega
   have HBT : Hid (batchL rs now 0 xs = .inr (xs.foldl doneS now)) := batch_ok rs xs now 0 fun j y hy => HOK.out j y (by have := (List.getElem?_eq_some_iff.1 hy).1; have := HX.out; omega) hy
   have HCH : Hid (Calls Tryz.prog 54 #[tv, .slice (some ⟨bb, off, none⟩) k cap] wr fun e w' => ∃ v, e = .returned v /\ w'.ownsRow wr.heap.size 9 1 v (xs.foldl doneS now).length (strV (xs.foldl doneS now)) /\ Below wr.heap.size wr w') := by
    have := changed_any tv now xs bb off cap wr (strs_below HW.out.2.2.2.1 HB.out) hs hnl (fun i x hx => (HB.out.cell (cell_lt (HW.out.2.2.2.2 i x hx))).trans (HW.out.2.2.2.2 i x hx)) (by have := HX.out; omega) hsz (fun x hx => by
     obtain ⟨j, hj⟩ := List.mem_iff_getElem?.1 hx
     have hz := HOK.out j x (by have := (List.getElem?_eq_some_iff.1 hj).1; have := HX.out; omega) hj
     unfold faultS at hz
     by_cases h : x.size = 0 \/ (byteAt x 0 ≠ 43 /\ byteAt x 0 ≠ 45)
     ·rw [if_pos h] at hz; cases hz
     ·refine ⟨fun e => h (Or.inl e), ?_⟩
      by_cases h43 : byteAt x 0 = 43
      ·exact Or.inl h43
      ·right
       by_cases h45 : byteAt x 0 = 45
       ·exact h45
       ·exact absurd (Or.inr ⟨h43, h45⟩) h)
    rw [HX.out] at this
    exact this
   rw [HBT.out]
   have c3 := row_cell HGR.out (j := 3) rfl
   have c4 := row_cell HGR.out (j := 4) rfl
   have hl70 : (xs.foldl doneS now).length <= 1000 := by
    have key : ∀ (l acc : List ByteArray), (l.foldl doneS acc).length <= acc.length + l.length := by
     intro l
     induction l with
     | nil => intro acc; simp
     | cons y l ih => intro acc; have := ih (doneS acc y); have h2 := withL_len acc (y.extract 1 y.size) (decide (byteAt y 0 = 43)); simp only [List.foldl_cons, List.length_cons]; unfold doneS at this ⊢; omega
    have := key xs now
    have := HX.out
    omega
   generalize xs.foldl doneS now = ys at *
   by_cases h50 : 50 < ys.length
   ·go_wp2_with (go_at_call 54; refine HCH.out.mono ?_; rintro e w5 ⟨v5, rfl, ho5, hb5⟩; obtain ⟨vx, vc, rfl⟩ := owns_form ho5; have hG5 := pg_below HGR.out hb5)
    refine leaves_cons (f := 52) (args := #[.pointer (some ⟨b, 0, none⟩)]) (by simp) (by simp [go_sem]) ?_
    refine (unlock_deferred Tryz.muLib ⟨b, 0, none⟩ .returning _ (row_cell hG5 (j := 0) rfl) (row_frozen hG5 0)).mono ?_
    rintro e u' w6 ⟨rfl, rfl, rfl⟩
    refine ⟨.tuple #[.int .i64 0, .int .i64 0, .int .i64 6], by simp [results, Tryz.results24, go_sem], ?_⟩
    rw [HBT.out]
    refine ⟨kept_set (kept_trans HW.out.2.1 (kept_below (HB.out.trans (hb5.mono HB.out.size)))) _ _, ?_⟩
    show if 50 < ys.length then _ else _
    rw [if_pos h50]
    exact ⟨rfl, pg_lock hG5 0⟩
   ·obtain ⟨v1, v2⟩ := hver
    go_wp2_with (go_at_call 54; refine HCH.out.mono ?_; rintro e w5 ⟨v5, rfl, ho5, hb5⟩; obtain ⟨vx, vc, rfl⟩ := owns_form ho5; have hG5 := pg_below HGR.out hb5; have d3 := row_cell hG5 (j := 3) rfl; have d4 := row_cell hG5 (j := 4) rfl; have z3 := row_frozen hG5 3; have z4 := row_frozen hG5 4)
    have hG7 : PgAt ((w5.setCell ⟨b, 3, none⟩ (.slice vx ys.length vc)).setCell ⟨b, 4, none⟩ (.int .i64 (ver + 1))) b ⟨1, mb, .slice vx ys.length vc, ver + 1, dk, false⟩ := row_set (row_set hG5 3 _) 4 _
    refine leaves_cons (f := 52) (args := #[.pointer (some ⟨b, 0, none⟩)]) (by simp) (by simp [go_sem]) ?_
    refine (unlock_deferred Tryz.muLib ⟨b, 0, none⟩ .returning _ (row_cell hG7 (j := 0) rfl) (row_frozen hG7 0)).mono ?_
    rintro e u' w6 ⟨rfl, rfl, rfl⟩
    refine ⟨.tuple #[.int .i64 (ver + 1), .int .i64 0, .int .i64 0], by simp [results, Tryz.results24, go_sem], ?_⟩
    rw [HBT.out]
    refine ⟨kept_set (kept_set (kept_set (kept_trans HW.out.2.1 (kept_below (HB.out.trans (hb5.mono HB.out.size)))) _ _) _ _) _ _, ?_⟩
    show if 50 < ys.length then _ else _
    rw [if_neg h50]
    refine ⟨_, rfl, pg_lock hG7 0, ?_⟩
    have hbl : b < wr.heap.size := row_lt HGR.out
    have hws : w.heap.size <= wr.heap.size := Nat.le_trans HW.out.2.1.size HB.out.size
    refine owns_to (owns_base ho5 hws) fun g hg => ?_
    have hge := (owns_lt ho5 g hg).2.1
    have hne : ¬ g = b := by omega
    rw [Below.heap_setCell _ _ _ _ hne, Below.heap_setCell _ _ _ _ hne, Below.heap_setCell _ _ _ _ hne]
theorem ghWrite_full (b : Nat) (g : Pg) (x : Option Addr) (n c : Nat) (w : World) (hg : PgAt w b g) (hlk : g.lk = 0) (hcl : g.cl = false) (hn : 20 < n) (hl : n <= maxLen) :
  Calls Tryz.prog 24 #[.pointer (some ⟨b, 0, none⟩), .slice x n c] w fun e w' => e = .returned (.tuple #[.int .i64 0, .int .i64 0, .int .i64 6]) /\ PgAt w' b g /\ w.grownBy w' (some b) := by
 obtain ⟨lk, mb, tv, ver, dk, cl⟩ := g
 dsimp only at hlk hcl
 subst hlk hcl
 unfold maxLen at hl
 have h0 := row_cell hg (j := 0) rfl
 have f0 := row_frozen hg 0
 go_enter_defers Tryz.func24, Tryz.ntmps24
 go_wp2_with (go_at_call 51; refine (lock_free Tryz.muLib ⟨b, 0, none⟩ _ h0 f0).mono ?_; rintro e w1 ⟨rfl, hw1⟩; have hG1 : PgAt w1 b ⟨1, mb, tv, ver, dk, false⟩ := (by rw [hw1]; exact pg_lock hg 1); have hk1 : w.grownBy w1 (some b) := (by rw [hw1]; exact kept_set (kept_refl _ _) _ _); clear hw1; have c5 := row_cell hG1 (j := 6) rfl)
 refine leaves_cons (f := 52) (args := #[.pointer (some ⟨b, 0, none⟩)]) (by simp) (by simp [go_sem]) ?_
 refine (unlock_deferred Tryz.muLib ⟨b, 0, none⟩ .returning _ (row_cell hG1 (j := 0) rfl) (row_frozen hG1 0)).mono ?_
 rintro e u' w6 ⟨rfl, rfl, rfl⟩
 exact ⟨.tuple #[.int .i64 0, .int .i64 0, .int .i64 6], by simp [results, Tryz.results24, go_sem], rfl, pg_lock hG1 0, kept_set hk1 _ _⟩
theorem changed_nil (tv : Value) (now : List ByteArray) (w : World) (hnow : StrsAt w tv now) (hnl : now.length <= 50) :
  Calls Tryz.prog 54 #[tv, .slice none 0 0] w fun e w' => ∃ v, e = .returned v /\ w'.ownsRow w.heap.size 9 1 v now.length (strV now) /\ Below w.heap.size w w' := by
 have hcl : Calls Tryz.prog 49 #[tv] w fun e w' => ∃ v, e = .returned v /\ w'.ownsRow w.heap.size 9 1 v now.length (strV now) /\ Below w.heap.size w w' := by
  rcases hnow with ⟨rfl, rfl⟩ | ⟨b0, o0, c0, rfl, hc0⟩
  ·refine (clone_nil w).mono ?_
   rintro e w' ⟨rfl, rfl⟩
   exact ⟨_, rfl, World.ownsRow_nil _ _ _ _, Below.refl _ _⟩
  ·refine (clone_any b0 o0 c0 now w hc0 (by omega)).mono ?_
   rintro e w' ⟨g, c, rfl, ho, hb⟩
   exact ⟨_, rfl, ho, hb⟩
 go_enter Tryz.func54, Tryz.ntmps54
 go_wp2_with (go_at_call 49; refine hcl.mono ?_; clear hcl; rintro e w1 ⟨v1, rfl, ho1, hb1⟩)
 refine wp_loop_rounds 1 ?_
 rw [rounds_succ]
 go_wp2
 go_ret
 exact ⟨_, rfl, ho1, hb1⟩
theorem ghWrite_nil (b : Nat) (g : Pg) (now : List ByteArray) (rs : List (ByteArray × ByteArray)) (w : World) (hg : PgAt w b g) (hlk : g.lk = 0) (hcl : g.cl = false)
  (hnow : StrsAt w g.tv now) (hnl : now.length <= 50) (hnb : ∀ a n c, g.tv = .slice (some a) n c -> a.block ≠ b) (hver : 0 <= g.ver /\ g.ver <= 4611686018427387904) :
  Calls Tryz.prog 24 #[.pointer (some ⟨b, 0, none⟩), .slice none 0 0] w (PWPost w b g (batchL rs now 0 [])) := by
 obtain ⟨lk, mb, tv, ver, dk, cl⟩ := g
 dsimp only at hlk hcl hnow hnb hver
 subst hlk hcl
 obtain ⟨v1, v2⟩ := hver
 have h0 := row_cell hg (j := 0) rfl
 have f0 := row_frozen hg 0
 go_enter_defers Tryz.func24, Tryz.ntmps24
 go_wp2_with (go_at_call 51; refine (lock_free Tryz.muLib ⟨b, 0, none⟩ _ h0 f0).mono ?_; rintro e w1 ⟨rfl, hw1⟩; have hG1 : PgAt w1 b ⟨1, mb, tv, ver, dk, false⟩ := (by rw [hw1]; exact pg_lock hg 1); have hk1 : w.grownBy w1 (some b) := (by rw [hw1]; exact kept_set (kept_refl _ _) _ _); clear hw1; have c5 := row_cell hG1 (j := 6) rfl; have c3 := row_cell hG1 (j := 3) rfl; have c4 := row_cell hG1 (j := 4) rfl)
 have HCH : Hid (Calls Tryz.prog 54 #[tv, .slice none 0 0] w1 fun e w' => ∃ v, e = .returned v /\ w'.ownsRow w1.heap.size 9 1 v now.length (strV now) /\ Below w1.heap.size w1 w') := changed_nil tv now w1 (strs_kept hnow hnb hk1) hnl
 have h50 : ¬ 50 < now.length := by omega
 refine wp_loop_rounds 1 ?_
 rw [rounds_succ]
 go_wp2_with (go_at_call 54; refine HCH.out.mono ?_; rintro e w5 ⟨v5, rfl, ho5, hb5⟩; obtain ⟨vx, vc, rfl⟩ := owns_form ho5; have hG5 := pg_below hG1 hb5; have d3 := row_cell hG5 (j := 3) rfl; have d4 := row_cell hG5 (j := 4) rfl; have z3 := row_frozen hG5 3; have z4 := row_frozen hG5 4)
 have hG7 : PgAt ((w5.setCell ⟨b, 3, none⟩ (.slice vx now.length vc)).setCell ⟨b, 4, none⟩ (.int .i64 (ver + 1))) b ⟨1, mb, .slice vx now.length vc, ver + 1, dk, false⟩ := row_set (row_set hG5 3 _) 4 _
 refine leaves_cons (f := 52) (args := #[.pointer (some ⟨b, 0, none⟩)]) (by simp) (by simp [go_sem]) ?_
 refine (unlock_deferred Tryz.muLib ⟨b, 0, none⟩ .returning _ (row_cell hG7 (j := 0) rfl) (row_frozen hG7 0)).mono ?_
 rintro e u' w6 ⟨rfl, rfl, rfl⟩
 refine ⟨.tuple #[.int .i64 (ver + 1), .int .i64 0, .int .i64 0], by simp [results, Tryz.results24, go_sem], ?_⟩
 refine ⟨kept_set (kept_set (kept_set (kept_trans hk1 (kept_below hb5)) _ _) _ _) _ _, ?_⟩
 show if 50 < now.length then _ else _
 rw [if_neg h50]
 refine ⟨_, rfl, pg_lock hG7 0, ?_⟩
 have hbl : b < w1.heap.size := row_lt hG1
 refine owns_to (owns_base ho5 hk1.size) fun g hg => ?_
 have hge := (owns_lt ho5 g hg).2.1
 have hne : ¬ g = b := by omega
 rw [Below.heap_setCell _ _ _ _ hne, Below.heap_setCell _ _ _ _ hne, Below.heap_setCell _ _ _ _ hne]
theorem snapshot_any (b : Nat) (g : Pg) (w : World) (hg : PgAt w b g) (hlk : g.lk = 0) :
  Calls Tryz.prog 50 #[.pointer (some ⟨b, 0, none⟩)] w fun e w' => e = .returned g.tv /\ PgAt w' b g /\ w.grownBy w' (some b) := by
 obtain ⟨lk, mb, tv, ver, dk, cl⟩ := g
 dsimp only at hlk
 subst hlk
 have h0 := row_cell hg (j := 0) rfl
 have f0 := row_frozen hg 0
 go_enter_defers Tryz.func50, Tryz.ntmps50
 go_wp2_with (go_at_call 51; refine (lock_free Tryz.muLib ⟨b, 0, none⟩ _ h0 f0).mono ?_; rintro e w1 ⟨rfl, hw1⟩; have hG1 : PgAt w1 b ⟨1, mb, tv, ver, dk, cl⟩ := (by rw [hw1]; exact pg_lock hg 1); have hk1 : w.grownBy w1 (some b) := (by rw [hw1]; exact kept_set (kept_refl _ _) _ _); clear hw1; have c3 := row_cell hG1 (j := 3) rfl)
 refine leaves_cons (f := 52) (args := #[.pointer (some ⟨b, 0, none⟩)]) (by simp) (by simp [go_sem]) ?_
 refine (unlock_deferred Tryz.muLib ⟨b, 0, none⟩ .returning _ (row_cell hG1 (j := 0) rfl) (row_frozen hG1 0)).mono ?_
 rintro e u' w6 ⟨rfl, rfl, rfl⟩
 exact ⟨_, results_tmp rfl _ _ _, rfl, pg_lock hG1 0, kept_set hk1 _ _⟩
theorem tuples_any (b : Nat) (g : Pg) (now : List ByteArray) (w : World) (hg : PgAt w b g) (hlk : g.lk = 0) (hnow : StrsAt w g.tv now) (hnl : now.length <= 50) (hnb : ∀ a n c, g.tv = .slice (some a) n c -> a.block ≠ b) :
  Calls Tryz.prog 23 #[.pointer (some ⟨b, 0, none⟩)] w fun e w' => ∃ v, e = .returned v /\ w'.ownsRow w.heap.size 9 1 v now.length (strV now) /\ PgAt w' b g /\ w.grownBy w' (some b) := by
 have hsn := snapshot_any b g w hg hlk
 have HCL : Hid (∀ w1, StrsAt w1 g.tv now -> Calls Tryz.prog 49 #[g.tv] w1 fun e w' => ∃ v, e = .returned v /\ w'.ownsRow w1.heap.size 9 1 v now.length (strV now) /\ Below w1.heap.size w1 w') := by
  intro w1 h1
  obtain ⟨v, hv⟩ : ∃ v, g.tv = v := ⟨_, rfl⟩
  rw [hv] at h1 ⊢
  rcases h1 with ⟨rfl, rfl⟩ | ⟨b0, o0, c0, rfl, hc0⟩
  ·refine (clone_nil w1).mono ?_
   rintro e w' ⟨rfl, rfl⟩
   exact ⟨_, rfl, World.ownsRow_nil _ _ _ _, Below.refl _ _⟩
  ·refine (clone_any b0 o0 c0 now w1 hc0 (by omega)).mono ?_
   rintro e w' ⟨g, c, rfl, ho, hb⟩
   exact ⟨_, rfl, ho, hb⟩
 go_enter Tryz.func23, Tryz.ntmps23
 go_wp2_with (first | (go_at_call 50; refine hsn.mono ?_; rintro e w1 ⟨rfl, hg1, hk1⟩) | (go_at_call 49; refine (HCL.out _ (strs_kept hnow hnb hk1)).mono ?_; rintro e w2 ⟨v2, rfl, ho2, hb2⟩))
 go_ret
 exact ⟨_, rfl, owns_base ho2 hk1.size, pg_below hg1 hb2, kept_trans hk1 (kept_below hb2)⟩
open Go.RowKit
def mutT (t : TypeId) : Bool := t == 61 || t == 28 || t == 66
def gateT (t : TypeId) : Bool := t == 99 || t == 124
def notMut : Obj -> Prop
 | .cells _ t _ => mutT t = false
 | _ => True
def notGate : Obj -> Prop
 | .cells _ t _ => gateT t = false
 | _ => True
structure SK (X : Nat -> Prop) (w w' : World) : Prop where
 size : w.heap.size <= w'.heap.size
 block : ∀ (k : Nat) (o : Obj), w.heap[k]? = some o -> notMut o -> (notGate o \/ ¬ X k) -> w'.heap[k]? = some o
theorem SK.trans {X : Nat -> Prop} {a b c : World} (h : SK X a b) (g : SK X b c) : SK X a c :=
 ⟨Nat.le_trans h.size g.size, fun k o ho h1 h2 => g.block k o (h.block k o ho h1 h2) h1 h2⟩
theorem SK.below {X : Nat -> Prop} {w w' : World} (h : Below w.heap.size w w') : SK X w w' :=
 ⟨h.size, fun k o ho _ _ => by rw [h.block k (row_lt ho)]; exact ho⟩
theorem SK.gate {X : Nat -> Prop} {w w' : World} {b : Nat} {cs : List Value} {t : TypeId} (h : w.grownBy w' (some b)) (hb : w.heap[b]? = some (.cells cs.toArray t (0, 0))) (ht : gateT t = true) (hx : X b) : SK X w w' := by
 refine ⟨h.size, fun k o ho _ h2 => ?_⟩
 by_cases e : k = b
 ·subst e
  rw [hb] at ho
  injection ho with ho
  subst ho
  rcases h2 with h2 | h2
  ·have : gateT t = false := h2
   rw [ht] at this; cases this
  ·exact absurd hx h2
 ·rw [h.block k (row_lt ho) (by simpa using e)]; exact ho
theorem SK.new {X : Nat -> Prop} {w0 w w' : World} {b : Nat} (h0 : SK X w0 w) (h : w.grownBy w' (some b)) (hb : w0.heap.size <= b) : SK X w0 w' := by
 refine ⟨Nat.le_trans h0.size h.size, fun k o ho h1 h2 => ?_⟩
 have hk := row_lt ho
 rw [h.block k (Nat.lt_of_lt_of_le hk h0.size) (by simp; omega)]
 exact h0.block k o ho h1 h2
theorem SK.str {X : Nat -> Prop} {w w' : World} (h : SK X w w') {k : Nat} {cur : List Value} (hk : w.heap[k]? = some (.cells cur.toArray 9 (0, 0))) : w'.heap[k]? = w.heap[k]? := by
 rw [hk]; exact h.block k _ hk (by show mutT 9 = false; decide) (Or.inl (by show gateT 9 = false; decide))
theorem SK.way {X : Nat -> Prop} {w w' : World} (h : SK X w w') {k : Nat} {cur : Array Value} (hk : w.heap[k]? = some (.cells cur 106 (0, 0))) : w'.heap[k]? = w.heap[k]? := by
 rw [hk]; exact h.block k _ hk (by show mutT 106 = false; decide) (Or.inl (by show gateT 106 = false; decide))
theorem SK.rule {X : Nat -> Prop} {w w' : World} (h : SK X w w') {k : Nat} {cur : Array Value} (hk : w.heap[k]? = some (.cells cur 163 (0, 0))) : w'.heap[k]? = w.heap[k]? := by
 rw [hk]; exact h.block k _ hk (by show mutT 163 = false; decide) (Or.inl (by show gateT 163 = false; decide))
theorem SK.mapAt {X : Nat -> Prop} {w w' : World} (h : SK X w w') {Gd : Value -> Prop} {mb : Nat} {m : List (Value × Value)} (hm : MapAt w Gd mb m) : MapAt w' Gd mb m := by
 obtain ⟨es, c, h1, h2⟩ := hm
 exact ⟨es, c, h.block mb _ h1 trivial (Or.inl trivial), h2⟩
theorem SK.strT {X : Nat -> Prop} {w w' : World} (h : SK X w w') {v : Value} {xs : List ByteArray} (hs : StrT w v xs) : StrT w' v xs := hs.move fun _ _ hk => h.str hk
theorem SK.rmap {X : Nat -> Prop} {w w' : World} (h : SK X w w') {lo : Nat} {xs : List ByteArray} {m : List (Value × Value)} (hs : RMap w lo xs m) : RMap w' lo xs m := hs.move fun _ _ _ hk => h.way hk
theorem SK.rules {X : Nat -> Prop} {w w' : World} (h : SK X w w') {base n : Nat} {v : Value} {us : List Value} (ho : w.ownsRow base 163 2 v n us) : w'.ownsRow base 163 2 v n us :=
 owns_to ho fun g hg => by obtain ⟨-, -, cur, hc⟩ := owns_lt ho g hg; exact h.rule hc
structure PS where
 pb : Nat
 gb : Nat
 rb : Nat
 g : Pg
 r : Rg
 xs : List ByteArray
 now : List ByteArray
 m : List (Value × Value)
 lo : Nat
def goodT (rs : List (ByteArray × ByteArray)) (s : ByteArray) : Prop := tupleS s = true /\ (ruleL rs (cutA s 64)).size ≠ 0 /\ (nodeS (cutZ s 64) = true -> (ruleL rs (cutZ s 64)).size ≠ 0)
structure PairOk (w : World) (B : Nat) (V : Int) (p : PS) : Prop where
 pair : w.heap[p.pb]? = some (.cells [Value.pointer (some ⟨p.gb, 0, none⟩), .pointer (some ⟨p.rb, 0, none⟩)].toArray 65 (0, 0))
 pg : PgAt w p.gb p.g
 rg : RgAt w p.rb p.r
 map : MapAt w HeadG p.g.mb p.m
 rmap : RMap w p.lo p.xs p.m
 rules : w.ownsRow p.lo 163 2 p.r.rulesV (ruleOfs p.xs).length (flR (ruleOfs p.xs))
 okx : openErr p.xs = none
 few : p.xs.length <= 12
 tv : StrT w p.g.tv p.now
 nv : StrT w p.r.nowV p.now
 sorted : Sorted p.now
 nl : p.now.length <= 50
 tup : ∀ s ∈ p.now, goodT (ruleOfs p.xs) s
 lk : p.g.lk = 0
 cl : p.g.cl = false
 rcl : p.r.closed = false
 ver : p.g.ver = p.r.version
 ver0 : 0 <= p.g.ver
 verV : p.g.ver <= V
 gB : B <= p.gb
 rB : B <= p.rb
theorem PairOk.more {w : World} {B : Nat} {V V' : Int} {p : PS} (h : PairOk w B V p) (hV : V <= V') : PairOk w B V' p := { h with verV := Int.le_trans h.verV hV }
theorem PairOk.keep {X : Nat -> Prop} {w w' : World} {B : Nat} {V : Int} {p : PS} (h : PairOk w B V p) (k : SK X w w') (h1 : ¬ X p.gb) (h2 : ¬ X p.rb) : PairOk w' B V p :=
 { h with
   pair := k.block _ _ h.pair (by show mutT 65 = false; decide) (Or.inl (by show gateT 65 = false; decide))
   pg := k.block _ _ h.pg (by show mutT 99 = false; decide) (Or.inr h1)
   rg := k.block _ _ h.rg (by show mutT 124 = false; decide) (Or.inr h2)
   map := k.mapAt h.map
   rmap := k.rmap h.rmap
   rules := k.rules h.rules
   tv := k.strT h.tv
   nv := k.strT h.nv }
structure LSt (W w : World) (wb : Nat) (V : Int) (L : List PS) (pv l1 l3 : Value) (us ws : List Value) : Prop where
 lw : LwAt w wb pv l1 l3
 op : w.ownsRow (wb + 1) 66 1 pv L.length (L.map fun p => Value.pointer (some ⟨p.pb, 0, none⟩))
 o1 : w.ownsRow (wb + 1) 28 1 l1 us.length us
 o3 : w.ownsRow (wb + 1) 28 1 l3 ws.length ws
 sep : ∀ k, l1.ownBlock = some k -> l3.ownBlock ≠ some k
 pairs : ∀ p ∈ L, PairOk w W.heap.size V p
 gnd : (L.map (·.gb)).Nodup
 rnd : (L.map (·.rb)).Nodup
 three : ws.length = 3 * us.length
 full1 : ∀ (k : Nat) (u : Value), us[k]? = some u -> LFull w u (strokesS k)
 full3 : ∀ (k j : Nat) (u : Value), k < us.length -> j < 3 -> ws[3 * k + j]? = some u -> FullB w u (strokesS k)
 below : Below W.heap.size W w
 wbB : W.heap.size <= wb
theorem SK.lfull {X : Nat -> Prop} {w w' : World} (h : SK X w w') {v : Value} {m : ByteArray} (hv : LFull w v m) : LFull w' v m := hv.step (MPB.of_same fun _ _ hg => h.str hg)
theorem SK.fullB {X : Nat -> Prop} {w w' : World} (h : SK X w w') {v : Value} {m : ByteArray} (hv : FullB w v m) : FullB w' v m := hv.step (MPB.of_same fun _ _ hg => h.str hg)
theorem openErr_code {xs : List ByteArray} {k : Nat} {c : Int} (h : openErr xs = some (k, c)) : c ≠ 0 := by
 unfold openErr at h
 obtain ⟨j, -, hj⟩ := List.exists_of_findSome?_eq_some h
 obtain ⟨c', hc, e⟩ := Option.map_eq_some_iff.1 hj
 injection e with _ e
 subst e
 unfold faultK at hc
 split at hc
 ·cases hc
 ·split at hc
  ·injection hc with hc; omega
  ·split at hc
   ·injection hc with hc; omega
   ·cases hc
theorem Tryz.infoPP : (Tryz.prog.info? 66).map (fun i => (i.zero, i.size, i.bytes)) = some (some (.pointer none), 1, 8) := by kernel_rfl
theorem app_pair (w : World) (base : Nat) (v : Value) (n : Nat) (us : List Value) (b : Nat) (hown : w.ownsRow base 66 1 v n us) (hb : base <= w.heap.size) (hl : n <= 8796093022208) :
  ∃ g c w', (Builtin.append_ #[58, 58] 58 #[v, .slice (some ⟨w.heap.size, 0, none⟩) 1 1]).run Tryz.prog (w.alloc (.cells #[.pointer (some ⟨b, 0, none⟩)] 66)) = .ok (.slice (some ⟨g, 0, none⟩) (n + 1) c) w' /\
   w'.ownsRow base 66 1 (.slice (some ⟨g, 0, none⟩) (n + 1) c) (n + 1) (us ++ [.pointer (some ⟨b, 0, none⟩)]) /\ w.grownBy w' v.ownBlock := by
 obtain ⟨i, hi, hzz⟩ := Option.map_eq_some_iff.1 Tryz.infoPP
 simp only [Prod.mk.injEq] at hzz
 obtain ⟨hz, hs, hby⟩ := hzz
 have hnews : ∀ (j : Nat) (x : Value), [Value.pointer (some ⟨b, 0, none⟩)][j]? = some x -> (w.alloc (.cells #[.pointer (some ⟨b, 0, none⟩)] 66)).cell? ((⟨w.heap.size, 0, none⟩ : Addr).add j) = some x := by
  intro j x hj
  rw [addr_at]
  exact row_cell (alloc_new w [.pointer (some ⟨b, 0, none⟩)] _) hj
 obtain ⟨v', w', hr, h2, h3, h4⟩ := run_append_own (P := Tryz.prog) (w.alloc (.cells #[.pointer (some ⟨b, 0, none⟩)] 66)) base 58 58 66 i (.pointer none) 1 8 Tryz.underlying58 hi hz hs hby rfl (by decide) v n us (hown.alloc _) ⟨w.heap.size, 0, none⟩ 1 1 [.pointer (some ⟨b, 0, none⟩)] rfl hnews
  (by intro u hu; simp at hu; subst hu; rfl) (by unfold maxLen; omega) (by omega) (by simp; omega)
 rcases h2.2 with ⟨hv, h0⟩ | ⟨g, cap, cur, hv, -⟩
 ·omega
 ·subst hv
  exact ⟨g, cap, w', hr, h2, grown_alloc h3⟩
theorem owns_sl_sk {w w' : World} {base n : Nat} {v : Value} {us : List Value} {t : TypeId} (h : w.ownsRow base t 1 v n us) (hk : ∀ (k : Nat) (cur : Array Value), w.heap[k]? = some (Obj.cells cur t (0, 0)) -> w'.heap[k]? = w.heap[k]?) : w'.ownsRow base t 1 v n us :=
 owns_to h fun g hg => by obtain ⟨-, -, cur, hc⟩ := owns_lt h g hg; exact hk g cur hc
structure Calm (X : Nat -> Prop) (w w' : World) : Prop where
 sk : SK X w w'
 own : ∀ (k : Nat) (cs : Array Value) (t : TypeId), w.heap[k]? = some (.cells cs t (0, 0)) -> mutT t = true -> w'.heap[k]? = w.heap[k]?
theorem Calm.trans {X : Nat -> Prop} {a b c : World} (h : Calm X a b) (g : Calm X b c) : Calm X a c :=
 ⟨h.sk.trans g.sk, fun k cs t hk ht => by
  have e := h.own k cs t hk ht
  rw [g.own k cs t (by rw [e]; exact hk) ht, e]⟩
theorem Calm.below {X : Nat -> Prop} {w w' : World} (h : Below w.heap.size w w') : Calm X w w' := ⟨SK.below h, fun k _ _ hk _ => h.block k (row_lt hk)⟩
theorem mut_gate {t : TypeId} (h : gateT t = true) : mutT t = false := by
 unfold gateT at h
 rw [Bool.or_eq_true, beq_iff_eq, beq_iff_eq] at h
 rcases h with rfl | rfl <;> decide
theorem Calm.gate {X : Nat -> Prop} {w w' : World} {b : Nat} {cs : List Value} {t : TypeId} (h : w.grownBy w' (some b)) (hb : w.heap[b]? = some (.cells cs.toArray t (0, 0))) (ht : gateT t = true) (hx : X b) : Calm X w w' := by
 refine ⟨SK.gate h hb ht hx, fun k cs' t' hk ht' => h.block k (row_lt hk) ?_⟩
 intro e
 injection e with e
 subst e
 rw [hb] at hk
 injection hk with hk
 injection hk with _ hk
 subst hk
 rw [mut_gate ht] at ht'; cases ht'
theorem Calm.new {X : Nat -> Prop} {w0 w w' : World} {b : Nat} (h0 : Calm X w0 w) (h : w.grownBy w' (some b)) (hb : w0.heap.size <= b) : Calm X w0 w' :=
 ⟨h0.sk.new h hb, fun k cs t hk ht => by
  have hlt := row_lt hk
  rw [h.block k (Nat.lt_of_lt_of_le hlt h0.sk.size) (by simp; omega)]
  exact h0.own k cs t hk ht⟩
theorem LSt.calm {X : Nat -> Prop} {W w w' : World} {wb : Nat} {V V' : Int} {L : List PS} {pv l1 l3 : Value} {us ws : List Value} (h : LSt W w wb V L pv l1 l3 us ws) (c : Calm X w w') (hb : Below W.heap.size W w') (L' : List PS)
  (hp : ∀ p ∈ L', PairOk w' W.heap.size V' p) (hm : L'.map (·.pb) = L.map (·.pb)) (hg : L'.map (·.gb) = L.map (·.gb)) (hr : L'.map (·.rb) = L.map (·.rb)) : LSt W w' wb V' L' pv l1 l3 us ws := by
 have hlen : L'.length = L.length := by rw [← List.length_map (f := (·.pb)), hm, List.length_map]
 have hpb : (L'.map fun p => Value.pointer (some ⟨p.pb, 0, none⟩)) = L.map fun p => Value.pointer (some ⟨p.pb, 0, none⟩) := by
  have e : ∀ M : List PS, (M.map fun p => Value.pointer (some ⟨p.pb, 0, none⟩)) = (M.map (·.pb)).map fun k => Value.pointer (some ⟨k, 0, none⟩) := fun M => by rw [List.map_map]; rfl
  rw [e, e, hm]
 refine ⟨?_, ?_, ?_, ?_, h.sep, hp, by rw [hg]; exact h.gnd, by rw [hr]; exact h.rnd, h.three, fun k u hu => c.sk.lfull (h.full1 k u hu), fun k j u h1 h2 h3 => c.sk.fullB (h.full3 k j u h1 h2 h3), hb, h.wbB⟩
 ·unfold LwAt; rw [c.own wb _ _ h.lw (by decide)]; exact h.lw
 ·rw [hlen, hpb]; exact owns_sl_sk h.op fun k cur hk => c.own k cur _ hk (by decide)
 ·exact owns_sl_sk h.o1 fun k cur hk => c.own k cur _ hk (by decide)
 ·exact owns_sl_sk h.o3 fun k cur hk => c.own k cur _ hk (by decide)
def nobody : Nat -> Prop := fun _ => False
theorem LSt.addPair {W w w4 : World} {wb : Nat} {V : Int} {L : List PS} {px : Option Addr} {pc : Nat} {l1 l3 : Value} {us ws : List Value} (h : LSt W w wb V L (.slice px L.length pc) l1 l3 us ws) (c : Calm nobody w w4) (hb4 : Below W.heap.size W w4) (hV : 0 <= V) (hn : L.length <= 8796093022208)
  {gb rb mb lo : Nat} {dk : Value} {m : List (Value × Value)} {xs : List ByteArray} {r : Rg} (hpg : PgAt w4 gb ⟨0, mb, .slice none 0 0, 0, dk, false⟩) (hrg : RgAt w4 rb r) (hmap : MapAt w4 HeadG mb m) (hrm : RMap w4 lo xs m) (hru : w4.ownsRow lo 163 2 r.rulesV (ruleOfs xs).length (flR (ruleOfs xs)))
  (ho : openErr xs = none) (hf : xs.length <= 12) (hnv : r.nowV = .slice none 0 0) (hve : r.version = 0) (hrc : r.closed = false) (hgw : w.heap.size <= gb) (hrw : w.heap.size <= rb) :
  ∃ g5 c5 w5, (Builtin.append_ #[58, 58] 58 #[.slice px L.length pc, .slice (some ⟨w4.heap.size + 1, 0, none⟩) 1 1]).run Tryz.prog ((w4.alloc (.cells #[.pointer (some ⟨gb, 0, none⟩), .pointer (some ⟨rb, 0, none⟩)] 65)).alloc (.cells #[.pointer (some ⟨w4.heap.size, 0, none⟩)] 66)) = .ok (.slice (some ⟨g5, 0, none⟩) (L.length + 1) c5) w5 /\
   w5.cell? ⟨wb, 0, none⟩ = some (.slice px L.length pc) /\ w5.frozen? ⟨wb, 0, none⟩ = false /\
   LSt W (w5.setCell ⟨wb, 0, none⟩ (.slice (some ⟨g5, 0, none⟩) (L.length + 1) c5)) wb V (L ++ [⟨w4.heap.size, gb, rb, ⟨0, mb, .slice none 0 0, 0, dk, false⟩, r, xs, [], m, lo⟩]) (.slice (some ⟨g5, 0, none⟩) (L.length + 1) c5) l1 l3 us ws := by
 have hws : W.heap.size <= w.heap.size := h.below.size
 have hwb : wb < w.heap.size := row_lt h.lw
 have hs4 : w.heap.size <= w4.heap.size := c.sk.size
 have hbA : Below w4.heap.size w4 (w4.alloc (.cells #[.pointer (some ⟨gb, 0, none⟩), .pointer (some ⟨rb, 0, none⟩)] 65)) := (Below.refl _ _).alloc (Nat.le_refl _) _
 have hlw4 : LwAt w4 wb (.slice px L.length pc) l1 l3 := by unfold LwAt; rw [c.own wb _ _ h.lw (by decide)]; exact h.lw
 have hop4 : w4.ownsRow (wb + 1) 66 1 (.slice px L.length pc) L.length (L.map fun p => Value.pointer (some ⟨p.pb, 0, none⟩)) := owns_sl_sk h.op fun k cur hk => c.own k cur _ hk (by decide)
 have ho14 : w4.ownsRow (wb + 1) 28 1 l1 us.length us := owns_sl_sk h.o1 fun k cur hk => c.own k cur _ hk (by decide)
 have ho34 : w4.ownsRow (wb + 1) 28 1 l3 ws.length ws := owns_sl_sk h.o3 fun k cur hk => c.own k cur _ hk (by decide)
 obtain ⟨g5, c5, w5, hrun, hop5, hg5⟩ := app_pair (w4.alloc (.cells #[.pointer (some ⟨gb, 0, none⟩), .pointer (some ⟨rb, 0, none⟩)] 65)) (wb + 1) _ _ _ w4.heap.size (owns_below hop4 hbA) (by simp; omega) hn
 have esz : (w4.alloc (.cells #[.pointer (some ⟨gb, 0, none⟩), .pointer (some ⟨rb, 0, none⟩)] 65)).heap.size = w4.heap.size + 1 := by show (w4.heap.push _).size = _; simp
 rw [esz] at hrun
 have hrow : ∀ k, (Value.slice px L.length pc).ownBlock = some k -> wb + 1 <= k /\ ∃ cur : Array Value, w4.heap[k]? = some (.cells cur 66 (0, 0)) := fun k hk => (owns_lt hop4 k hk).2
 have keep : ∀ (k : Nat) (o : Obj), w4.heap[k]? = some o -> (∀ cur : Array Value, o ≠ .cells cur 66 (0, 0)) -> w5.heap[k]? = some o := by
  intro k o hk hne
  have e1 := hbA.block k (row_lt hk)
  rw [hg5.block k (by rw [esz]; have := row_lt hk; omega) ?_, e1]
  ·exact hk
  ·intro e
   obtain ⟨-, cur, hc⟩ := hrow k e.symm
   rw [hk] at hc; injection hc with hc
   exact hne cur hc
 have keep6 : ∀ (k : Nat) (o : Obj), w4.heap[k]? = some o -> (∀ cur : Array Value, o ≠ .cells cur 66 (0, 0)) -> k ≠ wb -> (w5.setCell ⟨wb, 0, none⟩ (.slice (some ⟨g5, 0, none⟩) (L.length + 1) c5)).heap[k]? = some o := by
  intro k o hk hne hkw
  rw [Below.heap_setCell _ _ _ _ hkw]; exact keep k o hk hne
 have hlw5 : LwAt w5 wb (.slice px L.length pc) l1 l3 := keep wb _ hlw4 (by intro cur e; injection e with _ e; revert e; decide)
 have hsz5 : w4.heap.size + 1 <= w5.heap.size := by have := hg5.size; rw [esz] at this; exact this
 have sk46 : SK nobody w4 (w5.setCell ⟨wb, 0, none⟩ (.slice (some ⟨g5, 0, none⟩) (L.length + 1) c5)) := by
  refine ⟨by simp [World.setCell]; omega, fun k o hk h1 _ => keep6 k o hk ?_ ?_⟩
  ·intro cur e; subst e; exact absurd h1 (by show ¬ mutT 66 = false; decide)
  ·intro e; subst e; rw [hlw4] at hk; injection hk with hk; subst hk; exact absurd h1 (by show ¬ mutT 61 = false; decide)
 have sk06 := c.sk.trans sk46
 have hge5 : ∀ k, (Value.slice (some ⟨g5, 0, none⟩) (L.length + 1) c5).ownBlock = some k -> k ≠ wb := fun k hk => by have := (owns_lt hop5 k hk).2.1; omega
 refine ⟨g5, c5, w5, hrun, row_cell hlw5 (j := 0) rfl, row_frozen hlw5 0, row_set hlw5 0 _, ?_, ?_, ?_, h.sep, ?_, ?_, ?_, h.three, fun k u hu => sk06.lfull (h.full1 k u hu), fun k j u h1 h2 h3 => sk06.fullB (h.full3 k j u h1 h2 h3), ?_, h.wbB⟩
 ·rw [List.length_append, List.map_append]
  exact owns_to hop5 fun g hg => Below.heap_setCell _ _ _ _ (hge5 g hg)
 ·exact owns_sl_sk ho14 fun k cur hk => by rw [hk]; exact keep6 k _ hk (by intro cur' e; injection e with _ e; revert e; decide) (by intro e; subst e; rw [hlw4] at hk; injection hk with hk; injection hk with _ hk; revert hk; decide)
 ·exact owns_sl_sk ho34 fun k cur hk => by rw [hk]; exact keep6 k _ hk (by intro cur' e; injection e with _ e; revert e; decide) (by intro e; subst e; rw [hlw4] at hk; injection hk with hk; injection hk with _ hk; revert hk; decide)
 ·intro p hp
  rcases List.mem_append.1 hp with hp | hp
  ·exact (h.pairs p hp).keep sk06 (fun e => e) (fun e => e)
  ·simp at hp
   subst hp
   have hpair : (w5.setCell ⟨wb, 0, none⟩ (.slice (some ⟨g5, 0, none⟩) (L.length + 1) c5)).heap[w4.heap.size]? = some (.cells [Value.pointer (some ⟨gb, 0, none⟩), .pointer (some ⟨rb, 0, none⟩)].toArray 65 (0, 0)) := by
    rw [Below.heap_setCell _ _ _ _ (by show w4.heap.size ≠ wb; omega), hg5.block w4.heap.size (by rw [esz]; omega) ?_]
    ·exact alloc_new w4 [Value.pointer (some ⟨gb, 0, none⟩), .pointer (some ⟨rb, 0, none⟩)] _
    ·intro e; obtain ⟨-, cur, hc⟩ := hrow _ e.symm; have := row_lt hc; omega
   exact ⟨hpair, sk46.block _ _ hpg (by show mutT 99 = false; decide) (Or.inr (fun e => e)), sk46.block _ _ hrg (by show mutT 124 = false; decide) (Or.inr (fun e => e)), sk46.mapAt hmap, sk46.rmap hrm, sk46.rules hru, ho, hf, Or.inl ⟨rfl, rfl⟩, Or.inl ⟨hnv, rfl⟩, List.Pairwise.nil, Nat.zero_le _, (by intro s hs; cases hs), rfl, rfl, hrc, hve.symm, Int.le_refl _, hV, Nat.le_trans hws hgw, Nat.le_trans hws hrw⟩
 ·rw [List.map_append, List.nodup_append]
  refine ⟨h.gnd, by simp, fun a ha b hb e => ?_⟩
  simp at hb
  obtain ⟨p, hp, rfl⟩ := List.mem_map.1 ha
  have := row_lt (h.pairs p hp).pg
  omega
 ·rw [List.map_append, List.nodup_append]
  refine ⟨h.rnd, by simp, fun a ha b hb e => ?_⟩
  simp at hb
  obtain ⟨p, hp, rfl⟩ := List.mem_map.1 ha
  have := row_lt (h.pairs p hp).rg
  omega
 ·refine Below.setCell ?_ h.wbB _
  refine (hb4.trans (hbA.mono hb4.size)).grown hg5 (by rw [esz]; exact Nat.le_succ_of_le hb4.size) fun j hj => ?_
  have := (hrow j hj).1
  have := h.wbB
  omega
def openRes (xs : List ByteArray) (wk qu : Int) : Option (Nat × Int) := if argsBad xs.length wk qu then some (0, 1) else openErr xs
theorem openRes_code {xs : List ByteArray} {wk qu : Int} {k : Nat} {c : Int} (h : openRes xs wk qu = some (k, c)) : c ≠ 0 := by
 unfold openRes at h
 split at h
 ·injection h with h; injection h with _ h; omega
 ·exact openErr_code h
theorem ghOpen_err (v : Value) (xs : List ByteArray) (wk qu : Int) (w : World) (h : StrsAt w v xs) (hl : xs.length <= maxLen) {k : Nat} {c : Int} (hr : openRes xs wk qu = some (k, c)) :
  Calls Tryz.prog 26 #[v, .int .i64 wk, .int .i64 qu] w fun e w' => e = .returned (.tuple #[.pointer none, .int .i64 k, .int .i64 c]) /\ Below w.heap.size w w' := by
 refine (ghOpen_any v xs wk qu w h hl).mono ?_
 rintro e w' ⟨hb, ⟨h1, rfl⟩ | ⟨h1, ⟨k', c', h2, rfl⟩ | ⟨h2, -⟩⟩⟩ <;> unfold openRes at hr <;> rw [h1] at hr
 ·injection hr with hr; injection hr with a b; subst a; subst b; exact ⟨rfl, hb⟩
 ·simp only [Bool.false_eq_true, if_false] at hr
  rw [h2] at hr; injection hr with hr; injection hr with a b; subst a; subst b; exact ⟨rfl, hb⟩
 ·simp only [Bool.false_eq_true, if_false] at hr
  rw [h2] at hr; cases hr
theorem refOpen_err (v : Value) (xs : List ByteArray) (wk qu : Int) (w : World) (h : StrsAt w v xs) (hl : xs.length <= maxLen) (hsz : ∀ x ∈ xs, x.size <= maxLen) {k : Nat} {c : Int} (hr : openRes xs wk qu = some (k, c)) :
  Calls Tryz.prog 70 #[v, .int .i64 wk, .int .i64 qu] w fun e w' => e = .returned (.tuple #[.pointer none, .int .i64 k, .int .i64 c]) /\ Below w.heap.size w w' := by
 refine (refOpen_any v xs wk qu w h hl hsz).mono ?_
 rintro e w' ⟨hb, ⟨h1, rfl⟩ | ⟨h1, ⟨k', c', h2, rfl⟩ | ⟨h2, -⟩⟩⟩ <;> unfold openRes at hr <;> rw [h1] at hr
 ·injection hr with hr; injection hr with a b; subst a; subst b; exact ⟨rfl, hb⟩
 ·simp only [Bool.false_eq_true, if_false] at hr
  rw [h2] at hr; injection hr with hr; injection hr with a b; subst a; subst b; exact ⟨rfl, hb⟩
 ·simp only [Bool.false_eq_true, if_false] at hr
  rw [h2] at hr; cases hr
theorem openRes_none {xs : List ByteArray} {wk qu : Int} (hr : openRes xs wk qu = none) : openErr xs = none /\ argsBad xs.length wk qu = false /\ xs.length <= 12 := by
 unfold openRes at hr
 cases h : argsBad xs.length wk qu
 ·rw [h] at hr
  refine ⟨by simpa using hr, rfl, ?_⟩
  unfold argsBad at h
  simp at h; omega
 ·rw [h] at hr; cases hr
def PGood (xs : List ByteArray) (w w' : World) (b : Nat) : Prop := ∃ mb m dk, w.heap.size <= b /\ PgAt w' b ⟨0, mb, .slice none 0 0, 0, dk, false⟩ /\ MapAt w' HeadG mb m /\ RMap w' w.heap.size xs m
def RGood (xs : List ByteArray) (w w' : World) (b : Nat) : Prop := ∃ r : Rg, w.heap.size <= b /\ RgAt w' b r /\ w'.ownsRow w.heap.size 163 2 r.rulesV (ruleOfs xs).length (flR (ruleOfs xs)) /\ r.nowV = .slice none 0 0 /\ r.version = 0 /\ r.closed = false
theorem ghOpen_ok (v : Value) (xs : List ByteArray) (wk qu : Int) (w : World) (h : StrsAt w v xs) (hl : xs.length <= maxLen) (hr : openRes xs wk qu = none) :
  Calls Tryz.prog 26 #[v, .int .i64 wk, .int .i64 qu] w fun e w' => ∃ b, e = .returned (.tuple #[.pointer (some ⟨b, 0, none⟩), .int .i64 0, .int .i64 0]) /\ Below w.heap.size w w' /\ PGood xs w w' b := by
 obtain ⟨e1, e2, -⟩ := openRes_none hr
 refine (ghOpen_any v xs wk qu w h hl).mono ?_
 rintro e w' ⟨hb, ⟨h1, -⟩ | ⟨-, ⟨k', c', h2, -⟩ | ⟨-, b, mb, m, db, rfl, hbb, hh, -, hm, hrm, -⟩⟩⟩
 ·rw [e2] at h1; cases h1
 ·rw [e1] at h2; cases h2
 ·exact ⟨b, rfl, hb, mb, m, _, hbb, hh, hm, hrm⟩
theorem refOpen_ok (v : Value) (xs : List ByteArray) (wk qu : Int) (w : World) (h : StrsAt w v xs) (hl : xs.length <= maxLen) (hsz : ∀ x ∈ xs, x.size <= maxLen) (hr : openRes xs wk qu = none) :
  Calls Tryz.prog 70 #[v, .int .i64 wk, .int .i64 qu] w fun e w' => ∃ b, e = .returned (.tuple #[.pointer (some ⟨b, 0, none⟩), .int .i64 0, .int .i64 0]) /\ Below w.heap.size w w' /\ RGood xs w w' b := by
 obtain ⟨e1, e2, -⟩ := openRes_none hr
 refine (refOpen_any v xs wk qu w h hl hsz).mono ?_
 rintro e w' ⟨hb, ⟨h1, -⟩ | ⟨-, ⟨k', c', h2, -⟩ | ⟨-, b, rv, wb, n, rfl, hbb, hrg, hru, -⟩⟩⟩
 ·rw [e2] at h1; cases h1
 ·rw [e1] at h2; cases h2
 ·exact ⟨b, rfl, hb, _, hbb, hrg, hru, rfl, rfl, rfl⟩
theorem row_below {w w' : World} {g : Nat} {xs : List ByteArray} (h : RowAt w g xs) (hb : Below w.heap.size w w') : RowAt w' g xs := by
 unfold RowAt at h ⊢; rw [hb.block g (row_lt h)]; exact h
theorem strs_row {w : World} {g : Nat} {xs ys : List ByteArray} {c : Nat} (h : RowAt w g (xs ++ ys)) : StrsAt w (.slice (some ⟨g, 0, none⟩) xs.length c) xs := by
 refine Or.inr ⟨g, 0, c, rfl, fun i x hx => ?_⟩
 rw [Nat.zero_add]
 refine row_cell h (strV_get ?_)
 rw [List.getElem?_append_left (List.getElem?_eq_some_iff.1 hx).1]; exact hx
theorem PGood.kept {xs : List ByteArray} {w w2 w3 : World} {b h : Nat} {ys : List ByteArray} (p : PGood xs w w2 b) (hr : RowAt w2 h ys) (hk : w2.grownBy w3 (some h)) : PGood xs w w3 b := by
 obtain ⟨mb, m, dk, h1, h2, h3, h4⟩ := p
 have key : ∀ (k : Nat) (o : Obj), w2.heap[k]? = some o -> (∀ cur : Array Value, o ≠ .cells cur 9 (0, 0)) -> w3.heap[k]? = w2.heap[k]? := by
  intro k o ho hne
  refine hk.block k (row_lt ho) ?_
  intro e; injection e with e; subst e
  rw [hr] at ho; injection ho with ho
  exact hne _ ho.symm
 refine ⟨mb, m, dk, h1, ?_, ?_, ?_⟩
 ·unfold PgAt; rw [key b _ h2 (by intro cur e; injection e with _ e; revert e; decide)]; exact h2
 ·obtain ⟨es, c, h5, h6⟩ := h3
  exact ⟨es, c, by rw [key mb _ h5 (by intro cur e; cases e)]; exact h5, h6⟩
 ·exact h4.move fun g cur _ hg => key g _ hg (by intro cur' e; injection e with _ e; revert e; decide)
theorem PGood.below {xs : List ByteArray} {w w2 w3 : World} {b : Nat} (p : PGood xs w w2 b) (hk : Below w2.heap.size w2 w3) : PGood xs w w3 b := by
 obtain ⟨mb, m, dk, h1, h2, h3, h4⟩ := p
 exact ⟨mb, m, dk, h1, pg_below h2 hk, h3.move (hk.block _ h3.lt), h4.move fun g cur _ hg => hk.block g (row_lt hg)⟩
def OpenPost (W : World) (wb : Nat) (V : Int) (L : List PS) (l1 l3 : Value) (us ws : List Value) (xs : List ByteArray) (wk qu : Int) (e : Ending) (w' : World) : Prop :=
 ∃ pv' L', e = .returned (.bool true) /\ LSt W w' wb V L' pv' l1 l3 us ws /\ ((openRes xs wk qu ≠ none /\ L' = L) \/ (openRes xs wk qu = none /\ ∃ p, L' = L ++ [p] /\ p.xs = xs /\ p.now = [] /\ p.g.ver = 0))
theorem OpenPost.err {W w w4 : World} {wb : Nat} {V : Int} {L : List PS} {pv l1 l3 : Value} {us ws : List Value} {xs : List ByteArray} {wk qu : Int} (h : LSt W w wb V L pv l1 l3 us ws) (c : Calm nobody w w4) (hb : Below W.heap.size W w4) (hr : openRes xs wk qu ≠ none) (e : Ending) (he : e = .returned (.bool true)) : OpenPost W wb V L l1 l3 us ws xs wk qu e w4 :=
 ⟨pv, L, he, h.calm c hb L (fun p hp => (h.pairs p hp).keep c.sk (fun e => e) (fun e => e)) rfl rfl rfl, Or.inl ⟨hr, rfl⟩⟩
theorem open_ready {W w w1 w3 w4 : World} {wb : Nat} {V : Int} {L : List PS} {px : Option Addr} {pc : Nat} {l1 l3 : Value} {us ws : List Value} {xs : List ByteArray} {gb rb : Nat} (h : LSt W w wb V L (.slice px L.length pc) l1 l3 us ws) (hVn : 0 <= V /\ L.length <= 8796093022208) {wk qu : Int} (hres : openRes xs wk qu = none)
  (hsk : w.heap.size <= w1.heap.size) (hs13 : w1.heap.size <= w3.heap.size) (hpg : PGood xs w1 w3 gb) (c3 : Calm nobody w w3) (hb03 : Below W.heap.size W w3) (hb4 : Below w3.heap.size w3 w4) (hrg : RGood xs w3 w4 rb) :
  w4.cell? ⟨wb, 0, none⟩ = some (.slice px L.length pc) /\ ∃ g5 c5 w5, (Builtin.append_ #[58, 58] 58 #[.slice px L.length pc, .slice (some ⟨w4.heap.size + 1, 0, none⟩) 1 1]).run Tryz.prog ((w4.alloc (.cells #[.pointer (some ⟨gb, 0, none⟩), .pointer (some ⟨rb, 0, none⟩)] 65)).alloc (.cells #[.pointer (some ⟨w4.heap.size, 0, none⟩)] 66)) = .ok (.slice (some ⟨g5, 0, none⟩) (L.length + 1) c5) w5 /\
   w5.cell? ⟨wb, 0, none⟩ = some (.slice px L.length pc) /\ w5.frozen? ⟨wb, 0, none⟩ = false /\
   OpenPost W wb V L l1 l3 us ws xs wk qu (.returned (.bool true)) (w5.setCell ⟨wb, 0, none⟩ (.slice (some ⟨g5, 0, none⟩) (L.length + 1) c5)) := by
 have hws : W.heap.size <= w.heap.size := h.below.size
 obtain ⟨mb, m, dk, p1, p2, p3, p4⟩ := hpg.below hb4
 obtain ⟨r, r1, r2, r3, r4, r5, r6⟩ := hrg
 obtain ⟨e1, -, e3⟩ := openRes_none hres
 have hc4 : Calm nobody w w4 := c3.trans (Calm.below hb4)
 have hbb4 : Below W.heap.size W w4 := hb03.trans (hb4.mono hb03.size)
 have hlw4 : LwAt w4 wb (.slice px L.length pc) l1 l3 := by unfold LwAt; rw [hc4.own wb _ _ h.lw (by decide)]; exact h.lw
 refine ⟨row_cell hlw4 (j := 0) rfl, ?_⟩
 obtain ⟨g5, c5, w5, a1, a2, a3, a4⟩ := h.addPair hc4 hbb4 hVn.1 hVn.2 p2 r2 p3 p4 (owns_base r3 hs13) e1 e3 r4 r5 r6 (Nat.le_trans hsk p1) (Nat.le_trans c3.sk.size r1)
 exact ⟨g5, c5, w5, a1, a2, a3, _, _, rfl, a4, Or.inr ⟨hres, _, rfl, rfl, rfl, rfl⟩⟩
theorem lawOpen_err {W w : World} {wb : Nat} {V : Int} {L : List PS} {pv l1 l3 : Value} {us ws : List Value} (hS : LSt W w wb V L pv l1 l3 us ws) (b off cap : Nat) (xs : List ByteArray) (wk qu : Int) (hc : ∀ i x, xs[i]? = some x -> w.cell? ⟨b, off + i, none⟩ = some (.string x)) (hbw : b < w.heap.size) (hl : xs.length <= 8796093022208) (hsz : ∀ x ∈ xs, x.size <= maxLen) {k : Nat} {c : Int} (hres : openRes xs wk qu = some (k, c)) :
  Calls Tryz.prog 33 #[.pointer (some ⟨wb, 0, none⟩), .slice (some ⟨b, off, none⟩) xs.length cap, .int .i64 wk, .int .i64 qu] w (OpenPost W wb V L l1 l3 us ws xs wk qu) := by
 have HML : Hid (xs.length <= maxLen) := by show _ <= _; unfold maxLen; omega
 have HSZ : Hid (∀ x ∈ xs, x.size <= maxLen) := hsz
 have HLL : Hid (xs.length <= 8796093022208) := hl
 have HC : Hid (∀ i x, xs[i]? = some x -> w.cell? ⟨b, off + i, none⟩ = some (.string x)) := hc
 have HHD : Hid (Calls Tryz.prog 68 #[.slice (some ⟨b, off, none⟩) xs.length cap] w _) := handed_any b off cap xs w hc hl
 have HS : Hid (LSt W w wb V L pv l1 l3 us ws) := hS
 have HRES : Hid (openRes xs wk qu = some (k, c)) := hres
 have HBN : Hid (b ≠ w.heap.size) := by show _ ≠ _; omega
 have hc0 : (c != 0) = true := by simpa using openRes_code hres
 have hcc : (c != c) = false := by simp
 have hkk : ((k : Int) != (k : Int)) = false := by simp
 clear hS hc hl hsz hres
 go_enter Tryz.func33, Tryz.ntmps33
 go_wp2_with (first | (go_at_call 68; refine HHD.out.mono ?_; rintro e w1 ⟨rfl, hrow1, hb1⟩; have HS1 : StrsAt w1 (.slice (some ⟨w.heap.size, 0, none⟩) xs.length (xs.length + 8)) xs := strs_row hrow1) | (go_at_call 26; refine (ghOpen_err _ xs wk qu w1 HS1 HML.out HRES.out).mono ?_; rintro e w2 ⟨rfl, hb2⟩; have hbb2 : Below w.heap.size w w2 := hb1.trans (hb2.mono hb1.size); have hrow2 : RowAt w2 w.heap.size (xs ++ List.replicate 8 markS) := row_below hrow1 hb2) | (go_at_call 69; refine (still_any b off cap w.heap.size xs w2 (fun i x hx => (hbb2.cell (cell_lt (HC.out i x hx))).trans (HC.out i x hx)) HBN.out HLL.out hrow2).mono ?_; rintro e w3 ⟨rfl, hk3⟩; have HS3 : StrsAt w3 (.slice (some ⟨b, off, none⟩) xs.length cap) xs := Or.inr ⟨b, off, cap, rfl, fun i x hx => ((kcell hk3).1 b (off + i) (cell_lt ((hbb2.cell (cell_lt (HC.out i x hx))).trans (HC.out i x hx))) HBN.out).trans ((hbb2.cell (cell_lt (HC.out i x hx))).trans (HC.out i x hx))⟩) | (go_at_call 70; refine (refOpen_err _ xs wk qu w3 HS3 HML.out HSZ.out HRES.out).mono ?_; rintro e w4 ⟨rfl, hb4⟩))
 go_ret
 have hbb4 : Below W.heap.size W w4 := (((HS.out.below.trans (hbb2.mono HS.out.below.size)).grown hk3 (Nat.le_trans HS.out.below.size hbb2.size) (fun j hj => by injection hj with hj; rw [← hj]; exact HS.out.below.size))).trans (hb4.mono (Nat.le_trans HS.out.below.size (Nat.le_trans hbb2.size hk3.size)))
 exact OpenPost.err HS.out (((Calm.below hbb2).new hk3 (Nat.le_refl _)).trans (Calm.below hb4)) hbb4 (by rw [HRES.out]; exact fun e => by cases e) _ rfl
theorem lawOpen_ok {W w : World} {wb : Nat} {V : Int} {L : List PS} {pv l1 l3 : Value} {us ws : List Value} (hS : LSt W w wb V L pv l1 l3 us ws) (hV : 0 <= V) (hn : L.length <= 8796093022208) (b off cap : Nat) (xs : List ByteArray) (wk qu : Int) (hc : ∀ i x, xs[i]? = some x -> w.cell? ⟨b, off + i, none⟩ = some (.string x)) (hbw : b < w.heap.size) (hl : xs.length <= 8796093022208) (hsz : ∀ x ∈ xs, x.size <= maxLen) (hres : openRes xs wk qu = none) :
  Calls Tryz.prog 33 #[.pointer (some ⟨wb, 0, none⟩), .slice (some ⟨b, off, none⟩) xs.length cap, .int .i64 wk, .int .i64 qu] w (OpenPost W wb V L l1 l3 us ws xs wk qu) := by
 have HML : Hid (xs.length <= maxLen) := by show _ <= _; unfold maxLen; omega
 have HSZ : Hid (∀ x ∈ xs, x.size <= maxLen) := hsz
 have HLL : Hid (xs.length <= 8796093022208) := hl
 have HC : Hid (∀ i x, xs[i]? = some x -> w.cell? ⟨b, off + i, none⟩ = some (.string x)) := hc
 have HHD : Hid (Calls Tryz.prog 68 #[.slice (some ⟨b, off, none⟩) xs.length cap] w _) := handed_any b off cap xs w hc hl
 have HS : Hid (LSt W w wb V L pv l1 l3 us ws) := hS
 have HRES : Hid (openRes xs wk qu = none) := hres
 have HBN : Hid (b ≠ w.heap.size) := by show _ ≠ _; omega
 have HVN : Hid (0 <= V /\ L.length <= 8796093022208) := ⟨hV, hn⟩
 obtain ⟨px, pc, rfl⟩ := owns_form hS.op
 clear hS hc hl hsz hres hn hV
 go_enter Tryz.func33, Tryz.ntmps33
 go_wp2_with (first | (go_at_call 68; refine HHD.out.mono ?_; rintro e w1 ⟨rfl, hrow1, hb1⟩; have HS1 : StrsAt w1 (.slice (some ⟨w.heap.size, 0, none⟩) xs.length (xs.length + 8)) xs := strs_row hrow1) | (go_at_call 26; refine (ghOpen_ok _ xs wk qu w1 HS1 HML.out HRES.out).mono ?_; rintro e w2 ⟨gb, rfl, hb2, hpg2⟩; have hbb2 : Below w.heap.size w w2 := hb1.trans (hb2.mono hb1.size); have hrow2 : RowAt w2 w.heap.size (xs ++ List.replicate 8 markS) := row_below hrow1 hb2) | (go_at_call 69; refine (still_any b off cap w.heap.size xs w2 (fun i x hx => (hbb2.cell (cell_lt (HC.out i x hx))).trans (HC.out i x hx)) HBN.out HLL.out hrow2).mono ?_; rintro e w3 ⟨rfl, hk3⟩; have HS3 : StrsAt w3 (.slice (some ⟨b, off, none⟩) xs.length cap) xs := Or.inr ⟨b, off, cap, rfl, fun i x hx => ((kcell hk3).1 b (off + i) (cell_lt ((hbb2.cell (cell_lt (HC.out i x hx))).trans (HC.out i x hx))) HBN.out).trans ((hbb2.cell (cell_lt (HC.out i x hx))).trans (HC.out i x hx))⟩) | (go_at_call 70; refine (refOpen_ok _ xs wk qu w3 HS3 HML.out HSZ.out HRES.out).mono ?_; rintro e w4 ⟨rb, rfl, hb4, hrg4⟩; obtain ⟨hc4, g5, c5, w5, hrun, hc5, hf5, hp5⟩ := open_ready HS.out HVN.out HRES.out hb1.size (Nat.le_trans hb2.size hk3.size) (hpg2.kept hrow2 hk3) ((Calm.below hbb2).new hk3 (Nat.le_refl _)) ((HS.out.below.trans (hbb2.mono HS.out.below.size)).grown hk3 (Nat.le_trans HS.out.below.size hbb2.size) (fun j hj => by injection hj with hj; rw [← hj]; exact HS.out.below.size)) hb4 hrg4; have HP5 : Hid (OpenPost W wb V L l1 l3 us ws xs wk qu (.returned (.bool true)) (w5.setCell ⟨wb, 0, none⟩ (.slice (some ⟨g5, 0, none⟩) (L.length + 1) c5))) := hp5; clear hp5; have hc4a := fun o => (World.cell?_of_block (a := ⟨wb, 0, none⟩) (Below.heap_alloc w4 o wb (cell_lt hc4))).trans hc4; have hc4b := fun o o' => (World.cell?_of_block (a := ⟨wb, 0, none⟩) (Below.heap_alloc (w4.alloc o) o' wb (cell_lt (hc4a o)))).trans (hc4a o)) | (at_builtin; refine wpList_app_run rfl (.tmp 66) (.tmp 71) 58 rfl _ _ _ rfl rfl hrun ?_))
 go_ret
 exact HP5.out
theorem copy_zero (a : Addr) (w : World) :
  ∃ W2, (Builtin.copy_ #[28, 28] 3 #[.slice (some ⟨w.heap.size, 0, none⟩) 8 8, .slice (some a) 0 0]).run Tryz.prog (w.alloc (.cells (madeCells #[.string { data := #[] }] 8) 9)) = .ok (goInt 0) W2 /\
   RowAt W2 w.heap.size (List.replicate 8 emptyS) /\ Below w.heap.size w W2 := by
 have hg : (w.alloc (.cells (madeCells #[.string { data := #[] }] 8) 9)).heap[w.heap.size]? = some (.cells (strV (List.replicate 8 emptyS)).toArray 9 (0, 0)) := by
  rw [show madeCells #[Value.string { data := #[] }] 8 = madeCells #[Value.string { data := #[] }] (0 + 8) from rfl, made_strs]
  show (w.heap.push _)[w.heap.size]? = _
  simp
 refine ⟨_, ?_, hg, (Below.refl _ _).alloc (Nat.le_refl _) _⟩
 simp [Builtin.copy_, run_underlying Tryz.underlying28, go_sem]
theorem handed_zero (a : Addr) (w : World) :
  Calls Tryz.prog 68 #[.slice (some a) 0 0] w fun e w' => e = .returned (.slice (some ⟨w.heap.size, 0, none⟩) 8 8) /\ RowAt w' w.heap.size (List.replicate 8 markS) /\ Below w.heap.size w w' := by
 have hmk := run_make_row' (P := Tryz.prog) 28 9 (.string { data := #[] }) 16 Tryz.underlying28 Tryz.infoStr rfl .i64 .i64 8 (by omega) (by omega)
 have hq := fun (w : World) (a : Option Addr) (n c n' c' : Nat) => Lib.run_eql_slice_nil (P := Tryz.prog) w 28 9 a n c n' c' Tryz.underlying28
 obtain ⟨W2, hcp, hrow, hbel⟩ := copy_zero a w
 have ec : ((8 : Nat) : Int) = (8 : Int) := rfl
 rw [ec] at hmk
 clear ec
 go_enter Tryz.func68, Tryz.ntmps68
 go_wp2
 go_loopw [5] (fun i wr => ∃ k : Nat, k <= 8 /\ i = .int .i64 k /\ RowAt wr w.heap.size (List.replicate k markS ++ List.replicate (8 - k) emptyS) /\ Below w.heap.size w wr) (fun i _ => 8 - (intOf i).toNat)
 case atStart => exact ⟨0, by omega, rfl, hrow, hbel⟩
 case round =>
  obtain ⟨k, hk, rfl, hr, hb⟩ := hrel
  clear hrow hbel hcp hmk
  by_cases hlt : k < 8
  ·have hcl : wr.cell? ⟨w.heap.size, k, none⟩ = some (.string emptyS) := by
    refine row_cell hr (strV_get ?_)
    rw [List.getElem?_append_right (by simp), List.getElem?_replicate, if_pos (by simp; omega)]
   have hfz : wr.frozen? ⟨w.heap.size, k, none⟩ = false := row_frozen hr _
   have hr2 : RowAt (wr.setCell ⟨w.heap.size, k, none⟩ (.string markS)) w.heap.size (List.replicate (k + 1) markS ++ List.replicate (8 - (k + 1)) emptyS) := by
    unfold RowAt at hr ⊢
    rw [row_set hr, strV_set]
    congr 4
    rw [List.set_append_right _ _ (by simp), List.length_replicate, Nat.sub_self, List.replicate_succ', List.append_assoc]
    congr 1
    rw [show 8 - k = (8 - (k + 1)) + 1 by omega, List.replicate_succ]; rfl
   have hb2 := hb.setCell (p := ⟨w.heap.size, k, none⟩) (Nat.le_refl _) (.string markS)
   have HB : Hid (RowAt (wr.setCell ⟨w.heap.size, k, none⟩ (.string markS)) w.heap.size (List.replicate (k + 1) markS ++ List.replicate (8 - (k + 1)) emptyS) /\ Below w.heap.size w (wr.setCell ⟨w.heap.size, k, none⟩ (.string markS))) := ⟨hr2, hb2⟩
   clear hr2 hb2 hr hb
   go_wp2
   go_roundw
   case rel => exact ⟨k + 1, by omega, by go_num, HB.out.1, HB.out.2⟩
   case measure => simp [intOf]; omega
  ·obtain rfl : k = 8 := by omega
   go_wp2
   go_ret
   exact ⟨rfl, by simpa using hr, hb⟩
theorem still_zero (a : Addr) (g : Nat) (w : World) (hr0 : RowAt w g (List.replicate 8 markS)) :
  Calls Tryz.prog 69 #[.slice (some ⟨g, 0, none⟩) 8 8, .slice (some a) 0 0] w fun e w' => e = .returned (.bool true) /\ w.grownBy w' (some g) := by
 have HR : Hid (RowAt w g (List.replicate 0 overS ++ (List.replicate 8 markS).drop 0)) := hr0
 clear hr0
 go_enter Tryz.func69, Tryz.ntmps69
 go_wp2
 go_loopw [5] (fun i wr => ∃ k : Nat, k <= 8 /\ i = .int .i64 k /\ RowAt wr g (List.replicate k overS ++ (List.replicate 8 markS).drop k) /\ w.grownBy wr (some g)) (fun i _ => 8 - (intOf i).toNat)
 case atStart => exact ⟨0, by omega, rfl, HR.out, kept_refl _ _⟩
 case round =>
  obtain ⟨k, hk, rfl, hr, hb⟩ := hrel
  by_cases hlt : k < 8
  ·have hkl : k < (List.replicate 8 markS).length := by simp; omega
   have hcl : wr.cell? ⟨g, k, none⟩ = some (.string markS) := by
    refine row_cell hr (strV_get ?_)
    rw [List.getElem?_append_right (by simp), List.length_replicate, Nat.sub_self, List.getElem?_drop, Nat.add_zero, List.getElem?_replicate, if_pos hlt]
   have hfz : wr.frozen? ⟨g, k, none⟩ = false := row_frozen hr _
   have HB : Hid (RowAt (wr.setCell ⟨g, k, none⟩ (.string overS)) g (List.replicate (k + 1) overS ++ (List.replicate 8 markS).drop (k + 1)) /\ w.grownBy (wr.setCell ⟨g, k, none⟩ (.string overS)) (some g)) := by
    refine ⟨?_, kept_set hb k _⟩
    unfold RowAt at hr ⊢
    rw [row_set hr, strV_set, over_set _ _ hkl]
   have hyy : (markS.toList == [109, 97, 114, 107]) = true := by rw [show markS.toList = [109, 97, 114, 107] by rw [Lib.toList_data]; rfl]; rfl
   have hk0 : ¬ (k : Int) < 0 := by omega
   clear hr hb hkl HR
   go_wp2
   go_roundw
   case rel => exact ⟨k + 1, by omega, by go_num, HB.out.1, HB.out.2⟩
   case measure => simp [intOf]; omega
  ·obtain rfl : k = 8 := by omega
   clear HR hr
   go_wp2
   go_ret
   exact ⟨rfl, hb⟩
theorem refOpen_zero (a : Addr) (wk qu : Int) (w : World) : Calls Tryz.prog 70 #[.slice (some a) 0 0, .int .i64 wk, .int .i64 qu] w (ROPost [] wk qu w) := by
 cases hb : argsBad 0 wk qu
 ·have hb' := hb
  unfold argsBad at hb'
  simp at hb'
  obtain ⟨k, rfl⟩ : ∃ k : Nat, wk = (k : Int) := ⟨wk.toNat, by omega⟩
  have hmk := run_make_row' (P := Tryz.prog) 25 3 (.int .i64 0) 8 Tryz.underlying25 Tryz.infoInt rfl .i64 .i64 k (by omega) (by omega)
  have HA : Hid (argsBad ([] : List ByteArray).length k qu = false) := hb
  have t2 : decide ((k : Int) < 1) = false := by simp; omega
  have t3 : decide (4 < (k : Int)) = false := by simp; omega
  have t4 : decide (qu < 1) = false := by simp; omega
  have t5 : decide (6 < qu) = false := by simp; omega
  have HST : Hid (ROInv [] w k qu _ 0 (.slice none 0 0)) := ROInv.start [] w k qu
  clear hb hb'
  go_enter Tryz.func70, Tryz.ntmps70
  go_wp2
  refine wp_loop_rounds 1 ?_
  rw [rounds_succ]
  go_wp2
  refine bodyPost_ret (v := .tuple #[.pointer (some ⟨w.heap.size + 1, 0, none⟩), .int .i64 0, .int .i64 0]) (by simp [results, Tryz.results70, go_sem]) rfl ⟨HST.out.below, Or.inr ⟨HA.out, Or.inr ⟨openErr_none fun j hj => absurd hj (Nat.not_lt_zero j), w.heap.size + 1, _, w.heap.size, k, rfl, Nat.le_succ _, HST.out.gate, World.ownsRow_nil _ _ _ _, rfl, Nat.le_refl _, HST.out.wrk⟩⟩⟩
 ·have HP : Hid (∀ e, e = .returned (.tuple #[.pointer none, .int .i64 0, .int .i64 1]) -> ROPost [] wk qu w e w) := fun e he => ⟨Below.refl _ _, Or.inl ⟨hb, he⟩⟩
  generalize ROPost [] wk qu w = post at *
  unfold argsBad at hb
  by_cases h2 : wk < 1
  ·clear hb
   go_enter Tryz.func70, Tryz.ntmps70
   go_wp2
   refine bodyPost_ret (v := .tuple #[.pointer none, .int .i64 0, .int .i64 1]) (by simp [results, Tryz.results70, go_sem]) rfl (HP.out _ rfl)
  ·by_cases h3 : 4 < wk
   ·clear hb
    go_enter Tryz.func70, Tryz.ntmps70
    go_wp2
    refine bodyPost_ret (v := .tuple #[.pointer none, .int .i64 0, .int .i64 1]) (by simp [results, Tryz.results70, go_sem]) rfl (HP.out _ rfl)
   ·by_cases h4 : qu < 1
    ·clear hb
     go_enter Tryz.func70, Tryz.ntmps70
     go_wp2
     refine bodyPost_ret (v := .tuple #[.pointer none, .int .i64 0, .int .i64 1]) (by simp [results, Tryz.results70, go_sem]) rfl (HP.out _ rfl)
    ·have h5 : 6 < qu := by simp [h2, h3, h4] at hb; omega
     clear hb
     go_enter Tryz.func70, Tryz.ntmps70
     go_wp2
     refine bodyPost_ret (v := .tuple #[.pointer none, .int .i64 0, .int .i64 1]) (by simp [results, Tryz.results70, go_sem]) rfl (HP.out _ rfl)
theorem refWrite_zero (a : Addr) (b : Nat) (g : Rg) (rs : List (ByteArray × ByteArray)) (now : List ByteArray) (w : World) (hg : RgAt w b g) (hcl : g.closed = false) (hnow : StrT w g.nowV now) (hnl : now.length <= 50) (hnb : ∀ a m c, g.nowV = .slice (some a) m c -> a.block ≠ b) (hver : 0 <= g.version /\ g.version <= 4611686018427387904) :
  Calls Tryz.prog 35 #[.pointer (some ⟨b, 0, none⟩), .slice (some a) 0 0] w fun e w' => WPost w b g (batchL rs now 0 []) e w' := by
 have h4 : w.cell? ⟨b, 4, none⟩ = some (.bool g.closed) := row_cell hg rfl
 have h1 : w.cell? ⟨b, 1, none⟩ = some g.nowV := row_cell hg rfl
 have c2 : w.cell? ⟨b, 2, none⟩ = some (.int .i64 g.version) := row_cell hg rfl
 have f1 : w.frozen? ⟨b, 1, none⟩ = false := row_frozen hg _
 have f2 : w.frozen? ⟨b, 2, none⟩ = false := row_frozen hg _
 rw [hcl] at h4
 have HP : Hid (∀ e w', (∃ v, e = .returned (.tuple #[.int .i64 (g.version + 1), .int .i64 0, .int .i64 0]) /\ RgAt w' b { g with nowV := v, version := g.version + 1 } /\ StrT w' v now /\ w.grownBy w' (some b)) -> WPost w b g (batchL rs now 0 []) e w') := by
  intro e w' h
  show if 50 < now.length then _ else _
  rw [if_neg (by omega)]; exact h
 have HK : Hid (∀ v' : Value, RgAt ((w.setCell ⟨b, 1, none⟩ v').setCell ⟨b, 2, none⟩ (.int .i64 (g.version + 1))) b { g with nowV := v', version := g.version + 1 } /\ w.grownBy ((w.setCell ⟨b, 1, none⟩ v').setCell ⟨b, 2, none⟩ (.int .i64 (g.version + 1))) (some b)) :=
  fun v' => ⟨row_set (row_set hg 1 v') 2 _, kept_set (kept_set (kept_refl _ _) _ _) _ _⟩
 have HS : Hid (∀ u1 u2, StrT ((w.setCell ⟨b, 1, none⟩ u1).setCell ⟨b, 2, none⟩ u2) g.nowV now) := by
  intro u1 u2
  rcases hnow with h | ⟨sb, sc, cur, hv, hh, ht⟩
  ·exact Or.inl h
  ·have hne : sb ≠ b := hnb _ _ _ hv
   exact Or.inr ⟨sb, sc, cur, hv, by rw [Below.heap_setCell _ _ _ _ hne, Below.heap_setCell _ _ _ _ hne]; exact hh, ht⟩
 have HV : Hid (StrT w g.nowV now) := hnow
 clear hnow hnb hg
 generalize g.nowV = nv at *
 rcases HV.out with ⟨rfl, rfl⟩ | ⟨sb, sc, cur, rfl, -⟩
 all_goals
  go_enter Tryz.func35, Tryz.ntmps35
  go_wp2
  refine wp_loop_rounds 1 ?_
  rw [rounds_succ]
  go_wp2
  go_ret3
  exact HP.out _ _ ⟨_, rfl, (HK.out _).1, HS.out _ _, (HK.out _).2⟩
theorem lawOpen_nil_err {W w : World} {wb : Nat} {V : Int} {L : List PS} {pv l1 l3 : Value} {us ws : List Value} (hS : LSt W w wb V L pv l1 l3 us ws) (wk qu : Int) {k : Nat} {c : Int} (hres : openRes [] wk qu = some (k, c)) :
  Calls Tryz.prog 33 #[.pointer (some ⟨wb, 0, none⟩), .slice none 0 0, .int .i64 wk, .int .i64 qu] w (OpenPost W wb V L l1 l3 us ws [] wk qu) := by
 have HS : Hid (LSt W w wb V L pv l1 l3 us ws) := hS
 have HRES : Hid (openRes [] wk qu = some (k, c)) := hres
 have hc0 : (c != 0) = true := by simpa using openRes_code hres
 have hcc : (c != c) = false := by simp
 have hkk : ((k : Int) != (k : Int)) = false := by simp
 clear hS hres
 go_enter Tryz.func33, Tryz.ntmps33
 go_wp2_with (first | (go_at_call 68; refine (handed_nil w).mono ?_; rintro e w1 ⟨rfl, rfl⟩) | (go_at_call 26; refine (ghOpen_err _ [] wk qu _ (Or.inl ⟨rfl, rfl⟩) (Nat.zero_le _) HRES.out).mono ?_; rintro e w2 ⟨rfl, hb2⟩) | (go_at_call 69; refine (still_nil w2).mono ?_; rintro e w3 ⟨rfl, rfl⟩) | (go_at_call 70; refine (refOpen_err _ [] wk qu _ (Or.inl ⟨rfl, rfl⟩) (Nat.zero_le _) (fun x hx => absurd hx List.not_mem_nil) HRES.out).mono ?_; rintro e w4 ⟨rfl, hb4⟩))
 go_ret
 have hbb4 : Below W.heap.size W w4 := (HS.out.below.trans (hb2.mono HS.out.below.size)).trans (hb4.mono (Nat.le_trans HS.out.below.size hb2.size))
 exact OpenPost.err HS.out ((Calm.below hb2).trans (Calm.below hb4)) hbb4 (by rw [HRES.out]; exact fun e => by cases e) _ rfl
theorem lawOpen_nil_ok {W w : World} {wb : Nat} {V : Int} {L : List PS} {pv l1 l3 : Value} {us ws : List Value} (hS : LSt W w wb V L pv l1 l3 us ws) (hV : 0 <= V) (hn : L.length <= 8796093022208) (wk qu : Int) (hres : openRes [] wk qu = none) :
  Calls Tryz.prog 33 #[.pointer (some ⟨wb, 0, none⟩), .slice none 0 0, .int .i64 wk, .int .i64 qu] w (OpenPost W wb V L l1 l3 us ws [] wk qu) := by
 have HS : Hid (LSt W w wb V L pv l1 l3 us ws) := hS
 have HRES : Hid (openRes [] wk qu = none) := hres
 have HVN : Hid (0 <= V /\ L.length <= 8796093022208) := ⟨hV, hn⟩
 obtain ⟨px, pc, rfl⟩ := owns_form hS.op
 clear hS hres hn hV
 go_enter Tryz.func33, Tryz.ntmps33
 go_wp2_with (first | (go_at_call 68; refine (handed_nil w).mono ?_; rintro e w1 ⟨rfl, rfl⟩) | (go_at_call 26; refine (ghOpen_ok _ [] wk qu w1 (Or.inl ⟨rfl, rfl⟩) (Nat.zero_le _) HRES.out).mono ?_; rintro e w2 ⟨gb, rfl, hb2, hpg2⟩) | (go_at_call 69; refine (still_nil w2).mono ?_; rintro e w3 ⟨rfl, rfl⟩) | (go_at_call 70; refine (refOpen_ok _ [] wk qu w3 (Or.inl ⟨rfl, rfl⟩) (Nat.zero_le _) (fun x hx => absurd hx List.not_mem_nil) HRES.out).mono ?_; rintro e w4 ⟨rb, rfl, hb4, hrg4⟩; obtain ⟨hc4, g5, c5, w5, hrun, hc5, hf5, hp5⟩ := open_ready HS.out HVN.out HRES.out (Nat.le_refl _) hb2.size hpg2 (Calm.below hb2) (HS.out.below.trans (hb2.mono HS.out.below.size)) hb4 hrg4; have HP5 : Hid (OpenPost W wb V L l1 l3 us ws [] wk qu (.returned (.bool true)) (w5.setCell ⟨wb, 0, none⟩ (.slice (some ⟨g5, 0, none⟩) (L.length + 1) c5))) := hp5; clear hp5; have hc4a := fun o => (World.cell?_of_block (a := ⟨wb, 0, none⟩) (Below.heap_alloc w4 o wb (cell_lt hc4))).trans hc4; have hc4b := fun o o' => (World.cell?_of_block (a := ⟨wb, 0, none⟩) (Below.heap_alloc (w4.alloc o) o' wb (cell_lt (hc4a o)))).trans (hc4a o)) | (at_builtin; refine wpList_app_run rfl (.tmp 66) (.tmp 71) 58 rfl _ _ _ rfl rfl hrun ?_))
 go_ret
 exact HP5.out
theorem refOpen_zero_err (a : Addr) (wk qu : Int) (w : World) {k : Nat} {c : Int} (hr : openRes [] wk qu = some (k, c)) :
  Calls Tryz.prog 70 #[.slice (some a) 0 0, .int .i64 wk, .int .i64 qu] w fun e w' => e = .returned (.tuple #[.pointer none, .int .i64 k, .int .i64 c]) /\ Below w.heap.size w w' := by
 refine (refOpen_zero a wk qu w).mono ?_
 rintro e w' ⟨hb, ⟨h1, rfl⟩ | ⟨h1, ⟨k', c', h2, rfl⟩ | ⟨h2, -⟩⟩⟩ <;> unfold openRes at hr <;> rw [h1] at hr
 ·injection hr with hr; injection hr with a b; subst a; subst b; exact ⟨rfl, hb⟩
 ·simp only [Bool.false_eq_true, if_false] at hr
  rw [h2] at hr; injection hr with hr; injection hr with a b; subst a; subst b; exact ⟨rfl, hb⟩
 ·simp only [Bool.false_eq_true, if_false] at hr
  rw [h2] at hr; cases hr
theorem refOpen_zero_ok (a : Addr) (wk qu : Int) (w : World) (hr : openRes [] wk qu = none) :
  Calls Tryz.prog 70 #[.slice (some a) 0 0, .int .i64 wk, .int .i64 qu] w fun e w' => ∃ b, e = .returned (.tuple #[.pointer (some ⟨b, 0, none⟩), .int .i64 0, .int .i64 0]) /\ Below w.heap.size w w' /\ RGood [] w w' b := by
 obtain ⟨e1, e2, -⟩ := openRes_none hr
 refine (refOpen_zero a wk qu w).mono ?_
 rintro e w' ⟨hb, ⟨h1, -⟩ | ⟨-, ⟨k', c', h2, -⟩ | ⟨-, b, rv, wb, n, rfl, hbb, hrg, hru, -⟩⟩⟩
 ·rw [e2] at h1; cases h1
 ·rw [e1] at h2; cases h2
 ·exact ⟨b, rfl, hb, _, hbb, hrg, hru, rfl, rfl, rfl⟩
theorem strs_zero (w : World) (g c : Nat) : StrsAt w (.slice (some ⟨g, 0, none⟩) 0 c) [] := Or.inr ⟨g, 0, c, rfl, fun i x hx => by simp at hx⟩
theorem lawOpen_zero_err {W w : World} {wb : Nat} {V : Int} {L : List PS} {pv l1 l3 : Value} {us ws : List Value} (hS : LSt W w wb V L pv l1 l3 us ws) (a : Addr) (wk qu : Int) {k : Nat} {c : Int} (hres : openRes [] wk qu = some (k, c)) :
  Calls Tryz.prog 33 #[.pointer (some ⟨wb, 0, none⟩), .slice (some a) 0 0, .int .i64 wk, .int .i64 qu] w (OpenPost W wb V L l1 l3 us ws [] wk qu) := by
 have HHD : Hid (Calls Tryz.prog 68 #[.slice (some a) 0 0] w _) := handed_zero a w
 have HS : Hid (LSt W w wb V L pv l1 l3 us ws) := hS
 have HRES : Hid (openRes [] wk qu = some (k, c)) := hres
 have hc0 : (c != 0) = true := by simpa using openRes_code hres
 have hcc : (c != c) = false := by simp
 have hkk : ((k : Int) != (k : Int)) = false := by simp
 clear hS hres
 go_enter Tryz.func33, Tryz.ntmps33
 go_wp2_with (first | (go_at_call 68; refine HHD.out.mono ?_; rintro e w1 ⟨rfl, hrow1, hb1⟩; have HS1 : StrsAt w1 (.slice (some ⟨w.heap.size, 0, none⟩) 0 8) [] := strs_zero _ _ _) | (go_at_call 26; refine (ghOpen_err _ [] wk qu w1 HS1 (Nat.zero_le _) HRES.out).mono ?_; rintro e w2 ⟨rfl, hb2⟩; have hbb2 : Below w.heap.size w w2 := hb1.trans (hb2.mono hb1.size); have hrow2 : RowAt w2 w.heap.size (List.replicate 8 markS) := row_below hrow1 hb2) | (go_at_call 69; refine (still_zero a w.heap.size w2 hrow2).mono ?_; rintro e w3 ⟨rfl, hk3⟩) | (go_at_call 70; refine (refOpen_zero_err a wk qu w3 HRES.out).mono ?_; rintro e w4 ⟨rfl, hb4⟩))
 go_ret
 have hbb4 : Below W.heap.size W w4 := (((HS.out.below.trans (hbb2.mono HS.out.below.size)).grown hk3 (Nat.le_trans HS.out.below.size hbb2.size) (fun j hj => by injection hj with hj; rw [← hj]; exact HS.out.below.size))).trans (hb4.mono (Nat.le_trans HS.out.below.size (Nat.le_trans hbb2.size hk3.size)))
 exact OpenPost.err HS.out (((Calm.below hbb2).new hk3 (Nat.le_refl _)).trans (Calm.below hb4)) hbb4 (by rw [HRES.out]; exact fun e => by cases e) _ rfl
theorem lawOpen_zero_ok {W w : World} {wb : Nat} {V : Int} {L : List PS} {pv l1 l3 : Value} {us ws : List Value} (hS : LSt W w wb V L pv l1 l3 us ws) (hV : 0 <= V) (hn : L.length <= 8796093022208) (a : Addr) (wk qu : Int) (hres : openRes [] wk qu = none) :
  Calls Tryz.prog 33 #[.pointer (some ⟨wb, 0, none⟩), .slice (some a) 0 0, .int .i64 wk, .int .i64 qu] w (OpenPost W wb V L l1 l3 us ws [] wk qu) := by
 have HHD : Hid (Calls Tryz.prog 68 #[.slice (some a) 0 0] w _) := handed_zero a w
 have HS : Hid (LSt W w wb V L pv l1 l3 us ws) := hS
 have HRES : Hid (openRes [] wk qu = none) := hres
 have HVN : Hid (0 <= V /\ L.length <= 8796093022208) := ⟨hV, hn⟩
 obtain ⟨px, pc, rfl⟩ := owns_form hS.op
 clear hS hres hn hV
 go_enter Tryz.func33, Tryz.ntmps33
 go_wp2_with (first | (go_at_call 68; refine HHD.out.mono ?_; rintro e w1 ⟨rfl, hrow1, hb1⟩; have HS1 : StrsAt w1 (.slice (some ⟨w.heap.size, 0, none⟩) 0 8) [] := strs_zero _ _ _) | (go_at_call 26; refine (ghOpen_ok _ [] wk qu w1 HS1 (Nat.zero_le _) HRES.out).mono ?_; rintro e w2 ⟨gb, rfl, hb2, hpg2⟩; have hbb2 : Below w.heap.size w w2 := hb1.trans (hb2.mono hb1.size); have hrow2 : RowAt w2 w.heap.size (List.replicate 8 markS) := row_below hrow1 hb2) | (go_at_call 69; refine (still_zero a w.heap.size w2 hrow2).mono ?_; rintro e w3 ⟨rfl, hk3⟩) | (go_at_call 70; refine (refOpen_zero_ok a wk qu w3 HRES.out).mono ?_; rintro e w4 ⟨rb, rfl, hb4, hrg4⟩; obtain ⟨hc4, g5, c5, w5, hrun, hc5, hf5, hp5⟩ := open_ready HS.out HVN.out HRES.out hb1.size (Nat.le_trans hb2.size hk3.size) (hpg2.kept hrow2 hk3) ((Calm.below hbb2).new hk3 (Nat.le_refl _)) ((HS.out.below.trans (hbb2.mono HS.out.below.size)).grown hk3 (Nat.le_trans HS.out.below.size hbb2.size) (fun j hj => by injection hj with hj; rw [← hj]; exact HS.out.below.size)) hb4 hrg4; have HP5 : Hid (OpenPost W wb V L l1 l3 us ws [] wk qu (.returned (.bool true)) (w5.setCell ⟨wb, 0, none⟩ (.slice (some ⟨g5, 0, none⟩) (L.length + 1) c5))) := hp5; clear hp5; have hc4a := fun o => (World.cell?_of_block (a := ⟨wb, 0, none⟩) (Below.heap_alloc w4 o wb (cell_lt hc4))).trans hc4; have hc4b := fun o o' => (World.cell?_of_block (a := ⟨wb, 0, none⟩) (Below.heap_alloc (w4.alloc o) o' wb (cell_lt (hc4a o)))).trans (hc4a o)) | (at_builtin; refine wpList_app_run rfl (.tmp 66) (.tmp 71) 58 rfl _ _ _ rfl rfl hrun ?_))
 go_ret
 exact HP5.out
def TxtAt (w : World) (v : Value) (xs : List ByteArray) : Prop :=
 (v = .slice none 0 0 /\ xs = []) \/ (∃ a, v = .slice (some a) 0 0 /\ xs = []) \/ ∃ b off cap, v = .slice (some ⟨b, off, none⟩) xs.length cap /\ b < w.heap.size /\ ∀ i x, xs[i]? = some x -> w.cell? ⟨b, off + i, none⟩ = some (.string x)
theorem lawOpen_any {W w : World} {wb : Nat} {V : Int} {L : List PS} {pv l1 l3 : Value} {us ws : List Value} (hS : LSt W w wb V L pv l1 l3 us ws) (hV : 0 <= V) (hn : L.length <= 8796093022208) (v : Value) (xs : List ByteArray) (wk qu : Int) (ht : TxtAt w v xs) (hl : xs.length <= 8796093022208) (hsz : ∀ x ∈ xs, x.size <= maxLen) :
  Calls Tryz.prog 33 #[.pointer (some ⟨wb, 0, none⟩), v, .int .i64 wk, .int .i64 qu] w (OpenPost W wb V L l1 l3 us ws xs wk qu) := by
 rcases ht with ⟨rfl, rfl⟩ | ⟨a, rfl, rfl⟩ | ⟨b, off, cap, rfl, hb, hc⟩ <;> cases hr : openRes _ wk qu
 ·exact lawOpen_nil_ok hS hV hn wk qu hr
 ·exact lawOpen_nil_err hS wk qu hr
 ·exact lawOpen_zero_ok hS hV hn a wk qu hr
 ·exact lawOpen_zero_err hS a wk qu hr
 ·exact lawOpen_ok hS hV hn b off cap xs wk qu hc hb hl hsz hr
 ·exact lawOpen_err hS b off cap xs wk qu hc hb hl hsz hr
end Go.Proofs.YtalmoiogbdahcaaGreat
