import Derived.Test.YtalmoiogbdahcaaGreatXLawN
import Derived.Test.YtalmoiogbdahcaaGreatXLawZ

/- The statements' own Open: of no list at all; of any. -/
namespace Go.Proofs.YtalmoiogbdahcaaGreat
open Go.RowKit

set_option maxRecDepth 100000 in
set_option maxHeartbeats 4000000 in
theorem lawOpen_nil_err {W w : World} {wb : Nat} {V : Int} {L : List PS} {pv l1 l3 : Value} {us ws : List Value} (hS : LSt W w wb V L pv l1 l3 us ws) (wk qu : Int) {k : Nat} {c : Int} (hres : openRes [] wk qu = some (k, c)) :
    Calls Tryz.prog 33 #[.pointer (some ⟨wb, 0, none⟩), .slice none 0 0, .int .i64 wk, .int .i64 qu] w (OpenPost W wb V L l1 l3 us ws [] wk qu) := by
  have HS : Hid (LSt W w wb V L pv l1 l3 us ws) := hS
  have HRES : Hid (openRes [] wk qu = some (k, c)) := hres
  have hc0 : (c != 0) = true := by simpa using openRes_code hres
  have hcc : (c != c) = false := by simp
  have hkk : ((k : Int) != (k : Int)) = false := by simp
  clear hS hres
  go_enter Tryz.func33, Tryz.ntmps33
  go_wp2_with (first | (go_at_call 68; refine (handed_nil w).mono ?_; rintro e w1 ⟨rfl, rfl⟩) | (go_at_call 26; refine (ghOpen_err _ [] wk qu _ (Or.inl ⟨rfl, rfl⟩) (Nat.zero_le _) HRES.out).mono ?_; rintro e w2 ⟨rfl, hb2⟩) | (go_at_call 69; refine (still_nil w2).mono ?_; rintro e w3 ⟨rfl, rfl⟩) | (go_at_call 70; refine (refOpen_err _ [] wk qu _ (Or.inl ⟨rfl, rfl⟩) (Nat.zero_le _) (fun x hx => absurd hx List.not_mem_nil) HRES.out).mono ?_; rintro e w4 ⟨rfl, hb4⟩))
  go_ret
  have hbb4 : Below W.heap.size W w4 := (HS.out.below.trans (hb2.mono HS.out.below.size)).trans (hb4.mono (Nat.le_trans HS.out.below.size hb2.size))
  exact OpenPost.err HS.out ((Calm.below hb2).trans (Calm.below hb4)) hbb4 (by rw [HRES.out]; exact fun e => by cases e) _ rfl

set_option maxRecDepth 100000 in
set_option maxHeartbeats 4000000 in
theorem lawOpen_nil_ok {W w : World} {wb : Nat} {V : Int} {L : List PS} {pv l1 l3 : Value} {us ws : List Value} (hS : LSt W w wb V L pv l1 l3 us ws) (hV : 0 ≤ V) (hn : L.length ≤ 8796093022208) (wk qu : Int) (hres : openRes [] wk qu = none) :
    Calls Tryz.prog 33 #[.pointer (some ⟨wb, 0, none⟩), .slice none 0 0, .int .i64 wk, .int .i64 qu] w (OpenPost W wb V L l1 l3 us ws [] wk qu) := by
  have HS : Hid (LSt W w wb V L pv l1 l3 us ws) := hS
  have HRES : Hid (openRes [] wk qu = none) := hres
  have HVN : Hid (0 ≤ V ∧ L.length ≤ 8796093022208) := ⟨hV, hn⟩
  obtain ⟨px, pc, rfl⟩ := owns_form hS.op
  clear hS hres hn hV
  go_enter Tryz.func33, Tryz.ntmps33
  go_wp2_with (first | (go_at_call 68; refine (handed_nil w).mono ?_; rintro e w1 ⟨rfl, rfl⟩) | (go_at_call 26; refine (ghOpen_ok _ [] wk qu w1 (Or.inl ⟨rfl, rfl⟩) (Nat.zero_le _) HRES.out).mono ?_; rintro e w2 ⟨gb, rfl, hb2, hpg2⟩) | (go_at_call 69; refine (still_nil w2).mono ?_; rintro e w3 ⟨rfl, rfl⟩) | (go_at_call 70; refine (refOpen_ok _ [] wk qu w3 (Or.inl ⟨rfl, rfl⟩) (Nat.zero_le _) (fun x hx => absurd hx List.not_mem_nil) HRES.out).mono ?_; rintro e w4 ⟨rb, rfl, hb4, hrg4⟩; obtain ⟨hc4, g5, c5, w5, hrun, hc5, hf5, hp5⟩ := open_ready HS.out HVN.out HRES.out (Nat.le_refl _) hb2.size hpg2 (Calm.below hb2) (HS.out.below.trans (hb2.mono HS.out.below.size)) hb4 hrg4; have HP5 : Hid (OpenPost W wb V L l1 l3 us ws [] wk qu (.returned (.bool true)) (w5.setCell ⟨wb, 0, none⟩ (.slice (some ⟨g5, 0, none⟩) (L.length + 1) c5))) := hp5; clear hp5; have hc4a := fun o => (World.cell?_of_block (a := ⟨wb, 0, none⟩) (Below.heap_alloc w4 o wb (cell_lt hc4))).trans hc4; have hc4b := fun o o' => (World.cell?_of_block (a := ⟨wb, 0, none⟩) (Below.heap_alloc (w4.alloc o) o' wb (cell_lt (hc4a o)))).trans (hc4a o)) | (at_builtin; refine wpList_app_run rfl (.tmp 66) (.tmp 71) 58 rfl _ _ _ rfl rfl hrun ?_))
  go_ret
  exact HP5.out

theorem refOpen_zero_err (a : Addr) (wk qu : Int) (w : World) {k : Nat} {c : Int} (hr : openRes [] wk qu = some (k, c)) :
    Calls Tryz.prog 70 #[.slice (some a) 0 0, .int .i64 wk, .int .i64 qu] w fun e w' => e = .returned (.tuple #[.pointer none, .int .i64 k, .int .i64 c]) ∧ Below w.heap.size w w' := by
  refine (refOpen_zero a wk qu w).mono ?_
  rintro e w' ⟨hb, ⟨h1, rfl⟩ | ⟨h1, ⟨k', c', h2, rfl⟩ | ⟨h2, -⟩⟩⟩ <;> unfold openRes at hr <;> rw [h1] at hr
  · injection hr with hr; injection hr with a b; subst a; subst b; exact ⟨rfl, hb⟩
  · simp only [Bool.false_eq_true, if_false] at hr
    rw [h2] at hr; injection hr with hr; injection hr with a b; subst a; subst b; exact ⟨rfl, hb⟩
  · simp only [Bool.false_eq_true, if_false] at hr
    rw [h2] at hr; cases hr
theorem refOpen_zero_ok (a : Addr) (wk qu : Int) (w : World) (hr : openRes [] wk qu = none) :
    Calls Tryz.prog 70 #[.slice (some a) 0 0, .int .i64 wk, .int .i64 qu] w fun e w' => ∃ b, e = .returned (.tuple #[.pointer (some ⟨b, 0, none⟩), .int .i64 0, .int .i64 0]) ∧ Below w.heap.size w w' ∧ RGood [] w w' b := by
  obtain ⟨e1, e2, -⟩ := openRes_none hr
  refine (refOpen_zero a wk qu w).mono ?_
  rintro e w' ⟨hb, ⟨h1, -⟩ | ⟨-, ⟨k', c', h2, -⟩ | ⟨-, b, rv, wb, n, rfl, hbb, hrg, hru, -⟩⟩⟩
  · rw [e2] at h1; cases h1
  · rw [e1] at h2; cases h2
  · exact ⟨b, rfl, hb, _, hbb, hrg, hru, rfl, rfl, rfl⟩
theorem strs_zero (w : World) (g c : Nat) : StrsAt w (.slice (some ⟨g, 0, none⟩) 0 c) [] := Or.inr ⟨g, 0, c, rfl, fun i x hx => by simp at hx⟩

set_option maxRecDepth 100000 in
set_option maxHeartbeats 4000000 in
theorem lawOpen_zero_err {W w : World} {wb : Nat} {V : Int} {L : List PS} {pv l1 l3 : Value} {us ws : List Value} (hS : LSt W w wb V L pv l1 l3 us ws) (a : Addr) (wk qu : Int) {k : Nat} {c : Int} (hres : openRes [] wk qu = some (k, c)) :
    Calls Tryz.prog 33 #[.pointer (some ⟨wb, 0, none⟩), .slice (some a) 0 0, .int .i64 wk, .int .i64 qu] w (OpenPost W wb V L l1 l3 us ws [] wk qu) := by
  have HHD : Hid (Calls Tryz.prog 68 #[.slice (some a) 0 0] w _) := handed_zero a w
  have HS : Hid (LSt W w wb V L pv l1 l3 us ws) := hS
  have HRES : Hid (openRes [] wk qu = some (k, c)) := hres
  have hc0 : (c != 0) = true := by simpa using openRes_code hres
  have hcc : (c != c) = false := by simp
  have hkk : ((k : Int) != (k : Int)) = false := by simp
  clear hS hres
  go_enter Tryz.func33, Tryz.ntmps33
  go_wp2_with (first | (go_at_call 68; refine HHD.out.mono ?_; rintro e w1 ⟨rfl, hrow1, hb1⟩; have HS1 : StrsAt w1 (.slice (some ⟨w.heap.size, 0, none⟩) 0 8) [] := strs_zero _ _ _) | (go_at_call 26; refine (ghOpen_err _ [] wk qu w1 HS1 (Nat.zero_le _) HRES.out).mono ?_; rintro e w2 ⟨rfl, hb2⟩; have hbb2 : Below w.heap.size w w2 := hb1.trans (hb2.mono hb1.size); have hrow2 : RowAt w2 w.heap.size (List.replicate 8 markS) := row_below hrow1 hb2) | (go_at_call 69; refine (still_zero a w.heap.size w2 hrow2).mono ?_; rintro e w3 ⟨rfl, hk3⟩) | (go_at_call 70; refine (refOpen_zero_err a wk qu w3 HRES.out).mono ?_; rintro e w4 ⟨rfl, hb4⟩))
  go_ret
  have hbb4 : Below W.heap.size W w4 := (((HS.out.below.trans (hbb2.mono HS.out.below.size)).grown hk3 (Nat.le_trans HS.out.below.size hbb2.size) (fun j hj => by injection hj with hj; rw [← hj]; exact HS.out.below.size))).trans (hb4.mono (Nat.le_trans HS.out.below.size (Nat.le_trans hbb2.size hk3.size)))
  exact OpenPost.err HS.out (((Calm.below hbb2).new hk3 (Nat.le_refl _)).trans (Calm.below hb4)) hbb4 (by rw [HRES.out]; exact fun e => by cases e) _ rfl

set_option maxRecDepth 100000 in
set_option maxHeartbeats 4000000 in
theorem lawOpen_zero_ok {W w : World} {wb : Nat} {V : Int} {L : List PS} {pv l1 l3 : Value} {us ws : List Value} (hS : LSt W w wb V L pv l1 l3 us ws) (hV : 0 ≤ V) (hn : L.length ≤ 8796093022208) (a : Addr) (wk qu : Int) (hres : openRes [] wk qu = none) :
    Calls Tryz.prog 33 #[.pointer (some ⟨wb, 0, none⟩), .slice (some a) 0 0, .int .i64 wk, .int .i64 qu] w (OpenPost W wb V L l1 l3 us ws [] wk qu) := by
  have HHD : Hid (Calls Tryz.prog 68 #[.slice (some a) 0 0] w _) := handed_zero a w
  have HS : Hid (LSt W w wb V L pv l1 l3 us ws) := hS
  have HRES : Hid (openRes [] wk qu = none) := hres
  have HVN : Hid (0 ≤ V ∧ L.length ≤ 8796093022208) := ⟨hV, hn⟩
  obtain ⟨px, pc, rfl⟩ := owns_form hS.op
  clear hS hres hn hV
  go_enter Tryz.func33, Tryz.ntmps33
  go_wp2_with (first | (go_at_call 68; refine HHD.out.mono ?_; rintro e w1 ⟨rfl, hrow1, hb1⟩; have HS1 : StrsAt w1 (.slice (some ⟨w.heap.size, 0, none⟩) 0 8) [] := strs_zero _ _ _) | (go_at_call 26; refine (ghOpen_ok _ [] wk qu w1 HS1 (Nat.zero_le _) HRES.out).mono ?_; rintro e w2 ⟨gb, rfl, hb2, hpg2⟩; have hbb2 : Below w.heap.size w w2 := hb1.trans (hb2.mono hb1.size); have hrow2 : RowAt w2 w.heap.size (List.replicate 8 markS) := row_below hrow1 hb2) | (go_at_call 69; refine (still_zero a w.heap.size w2 hrow2).mono ?_; rintro e w3 ⟨rfl, hk3⟩) | (go_at_call 70; refine (refOpen_zero_ok a wk qu w3 HRES.out).mono ?_; rintro e w4 ⟨rb, rfl, hb4, hrg4⟩; obtain ⟨hc4, g5, c5, w5, hrun, hc5, hf5, hp5⟩ := open_ready HS.out HVN.out HRES.out hb1.size (Nat.le_trans hb2.size hk3.size) (hpg2.kept hrow2 hk3) ((Calm.below hbb2).new hk3 (Nat.le_refl _)) ((HS.out.below.trans (hbb2.mono HS.out.below.size)).grown hk3 (Nat.le_trans HS.out.below.size hbb2.size) (fun j hj => by injection hj with hj; rw [← hj]; exact HS.out.below.size)) hb4 hrg4; have HP5 : Hid (OpenPost W wb V L l1 l3 us ws [] wk qu (.returned (.bool true)) (w5.setCell ⟨wb, 0, none⟩ (.slice (some ⟨g5, 0, none⟩) (L.length + 1) c5))) := hp5; clear hp5; have hc4a := fun o => (World.cell?_of_block (a := ⟨wb, 0, none⟩) (Below.heap_alloc w4 o wb (cell_lt hc4))).trans hc4; have hc4b := fun o o' => (World.cell?_of_block (a := ⟨wb, 0, none⟩) (Below.heap_alloc (w4.alloc o) o' wb (cell_lt (hc4a o)))).trans (hc4a o)) | (at_builtin; refine wpList_app_run rfl (.tmp 66) (.tmp 71) 58 rfl _ _ _ rfl rfl hrun ?_))
  go_ret
  exact HP5.out

/-- texts that lie where they may be read and nobody of the call's own lies. -/
def TxtAt (w : World) (v : Value) (xs : List ByteArray) : Prop :=
  (v = .slice none 0 0 ∧ xs = []) ∨ (∃ a, v = .slice (some a) 0 0 ∧ xs = []) ∨ ∃ b off cap, v = .slice (some ⟨b, off, none⟩) xs.length cap ∧ b < w.heap.size ∧ ∀ i x, xs[i]? = some x → w.cell? ⟨b, off + i, none⟩ = some (.string x)
theorem lawOpen_any {W w : World} {wb : Nat} {V : Int} {L : List PS} {pv l1 l3 : Value} {us ws : List Value} (hS : LSt W w wb V L pv l1 l3 us ws) (hV : 0 ≤ V) (hn : L.length ≤ 8796093022208) (v : Value) (xs : List ByteArray) (wk qu : Int) (ht : TxtAt w v xs) (hl : xs.length ≤ 8796093022208) (hsz : ∀ x ∈ xs, x.size ≤ maxLen) :
    Calls Tryz.prog 33 #[.pointer (some ⟨wb, 0, none⟩), v, .int .i64 wk, .int .i64 qu] w (OpenPost W wb V L l1 l3 us ws xs wk qu) := by
  rcases ht with ⟨rfl, rfl⟩ | ⟨a, rfl, rfl⟩ | ⟨b, off, cap, rfl, hb, hc⟩ <;> cases hr : openRes _ wk qu
  · exact lawOpen_nil_ok hS hV hn wk qu hr
  · exact lawOpen_nil_err hS wk qu hr
  · exact lawOpen_zero_ok hS hV hn a wk qu hr
  · exact lawOpen_zero_err hS a wk qu hr
  · exact lawOpen_ok hS hV hn b off cap xs wk qu hc hb hl hsz hr
  · exact lawOpen_err hS b off cap xs wk qu hc hb hl hsz hr

end Go.Proofs.YtalmoiogbdahcaaGreat

/- The statements' own write: what a pair is behind it. -/
namespace Go.Proofs.YtalmoiogbdahcaaGreat
open Go.RowKit

/-- what both Writes make of a batch. -/
def wrRes (rs : List (ByteArray × ByteArray)) (now xs : List ByteArray) : Sum (Nat × Int) (List ByteArray) := if 20 < xs.length then .inl (0, 6) else batchL rs now 0 xs
def wrV (ver : Int) : Sum (Nat × Int) (List ByteArray) → Int
  | .inl _ => 0
  | .inr ys => if 50 < ys.length then 0 else ver + 1
def wrA : Sum (Nat × Int) (List ByteArray) → Int
  | .inl (i, _) => i
  | .inr _ => 0
def wrE : Sum (Nat × Int) (List ByteArray) → Int
  | .inl (_, f) => f
  | .inr ys => if 50 < ys.length then 6 else 0
theorem done_sorted {now : List ByteArray} (h : Sorted now) (s : ByteArray) : Sorted (doneS now s) := by
  obtain ⟨i, hi⟩ := place_ex h (s.extract 1 s.size)
  exact with_sorted h hi _
theorem batch_sorted (rs : List (ByteArray × ByteArray)) : ∀ (xs now : List ByteArray) (i : Nat) (ys : List ByteArray), Sorted now → batchL rs now i xs = .inr ys → Sorted ys := by
  intro xs
  induction xs with
  | nil => intro now i ys h e; injection e with e; subst e; exact h
  | cons s l ih =>
    intro now i ys h e
    unfold batchL at e
    split at e
    · exact ih _ _ _ (done_sorted h s) e
    · cases e
theorem wr_sorted {rs : List (ByteArray × ByteArray)} {now xs ys : List ByteArray} (h : Sorted now) (e : wrRes rs now xs = .inr ys) : Sorted ys := by
  unfold wrRes at e
  split at e
  · cases e
  · exact batch_sorted rs _ _ _ _ h e
theorem with_mem (s : ByteArray) : ∀ (xs : List ByteArray) (q : Bool × List ByteArray) (y : ByteArray), y ∈ (xs.foldl (withStep s) q).2 → y ∈ q.2 ∨ y ∈ xs ∨ y = s := by
  intro xs
  induction xs with
  | nil => intro q y h; exact Or.inl h
  | cons x xs ih =>
    intro q y h
    rw [List.foldl_cons] at h
    rcases ih _ _ h with h | h | h
    · unfold withStep at h
      dsimp only at h
      rcases List.mem_append.1 h with h | h
      · split at h
        · rcases List.mem_append.1 h with h | h
          · exact Or.inl h
          · exact Or.inr (Or.inr (List.mem_singleton.1 h))
        · exact Or.inl h
      · split at h
        · exact Or.inr (Or.inl (by rw [List.mem_singleton.1 h]; exact List.mem_cons_self ..))
        · cases h
    · exact Or.inr (Or.inl (List.mem_cons_of_mem _ h))
    · exact Or.inr (Or.inr h)
theorem withL_mem {xs : List ByteArray} {s : ByteArray} {b : Bool} {y : ByteArray} (h : y ∈ withL xs s b) : y ∈ xs ∨ y = s := by
  unfold withL at h
  rcases List.mem_append.1 h with h | h
  · rcases with_mem s xs _ y h with h | h | h
    · cases h
    · exact Or.inl h
    · exact Or.inr h
  · split at h
    · exact Or.inr (List.mem_singleton.1 h)
    · cases h
theorem faultS_good {rs : List (ByteArray × ByteArray)} {s : ByteArray} (h : faultS rs s = 0) : goodT rs (s.extract 1 s.size) := by
  unfold faultS at h
  split at h
  · cases h
  · split at h
    · cases h
    · rename_i h2
      split at h
      · cases h
      · rename_i h3
        refine ⟨by simpa using h2, fun e => h3 (Or.inl e), fun e1 e2 => h3 (Or.inr ⟨e1, e2⟩)⟩
theorem batch_good (rs : List (ByteArray × ByteArray)) : ∀ (xs now : List ByteArray) (i : Nat) (ys : List ByteArray), (∀ s ∈ now, goodT rs s) → batchL rs now i xs = .inr ys → ∀ s ∈ ys, goodT rs s := by
  intro xs
  induction xs with
  | nil => intro now i ys h e; injection e with e; subst e; exact h
  | cons s l ih =>
    intro now i ys h e
    unfold batchL at e
    split at e
    · rename_i hf
      refine ih _ _ _ ?_ e
      intro y hy
      rcases withL_mem hy with h1 | h1
      · exact h y h1
      · rw [h1]; exact faultS_good hf
    · cases e
theorem wr_good {rs : List (ByteArray × ByteArray)} {now xs ys : List ByteArray} (h : ∀ s ∈ now, goodT rs s) (e : wrRes rs now xs = .inr ys) : ∀ s ∈ ys, goodT rs s := by
  unfold wrRes at e
  split at e
  · cases e
  · exact batch_good rs _ _ _ _ h e
theorem strT_ne {w : World} {v : Value} {xs : List ByteArray} {b : Nat} {cs : Array Value} {t : TypeId} (h : StrT w v xs) (hb : w.heap[b]? = some (.cells cs t (0, 0))) (ht : t ≠ 9) : ∀ a n c, v = .slice (some a) n c → a.block ≠ b := by
  intro a n c e hab
  rcases h with ⟨rfl, -⟩ | ⟨b', cap, cur, rfl, hh, -⟩
  · cases e
  · injection e with e1 e2 e3
    injection e1 with e1
    subst e1
    dsimp only at hab
    subst hab
    rw [hb] at hh
    injection hh with hh
    injection hh with _ hh
    exact ht hh
theorem pw_ret {w w' : World} {b : Nat} {g : Pg} {r : Sum (Nat × Int) (List ByteArray)} {e : Ending} (h : PWPost w b g r e w') : e = .returned (.tuple #[.int .i64 (wrV g.ver r), .int .i64 (wrA r), .int .i64 (wrE r)]) := by
  obtain ⟨-, h⟩ := h
  rcases r with ⟨i, f⟩ | ys
  · exact h.1
  · dsimp only at h
    unfold wrV wrA wrE
    split at h
    · rename_i h5; dsimp only; rw [if_pos h5, if_pos h5]; exact h.1
    · rename_i h5; dsimp only; rw [if_neg h5, if_neg h5]; obtain ⟨v, h, -⟩ := h; exact h
theorem w_ret {w w' : World} {b : Nat} {g : Rg} {r : Sum (Nat × Int) (List ByteArray)} {e : Ending} (h : WPost w b g r e w') : e = .returned (.tuple #[.int .i64 (wrV g.version r), .int .i64 (wrA r), .int .i64 (wrE r)]) := by
  unfold WPost at h
  rcases r with ⟨i, f⟩ | ys
  · exact h.1
  · dsimp only at h
    unfold wrV wrA wrE
    split at h
    · rename_i h5; dsimp only; rw [if_pos h5, if_pos h5]; exact h.1
    · rename_i h5; dsimp only; rw [if_neg h5, if_neg h5]; obtain ⟨v, h, -⟩ := h; exact h

/-- texts to be read, or a list of nothing. -/
def TxtS (w : World) (v : Value) (xs : List ByteArray) : Prop := StrsAt w v xs ∨ ∃ a, v = .slice (some a) 0 0 ∧ xs = []
/-- texts that lie off a block. -/
def TxtOff (w : World) (v : Value) (xs : List ByteArray) (b : Nat) : Prop :=
  (v = .slice none 0 0 ∧ xs = []) ∨ ∃ bb off cap, v = .slice (some ⟨bb, off, none⟩) xs.length cap ∧ bb ≠ b ∧ ∀ i x, xs[i]? = some x → w.cell? ⟨bb, off + i, none⟩ = some (.string x)
theorem pairGW {w : World} {B : Nat} {V : Int} {p : PS} (h : PairOk w B V p) (hV : V ≤ 4611686018427387904) {v : Value} {xs : List ByteArray} (ht : TxtOff w v xs p.gb) (hl : xs.length ≤ maxLen) (hsz : ∀ x ∈ xs, x.size ≤ 140737488355328) :
    Calls Tryz.prog 24 #[.pointer (some ⟨p.gb, 0, none⟩), v] w (PWPost w p.gb p.g (wrRes (ruleOfs p.xs) p.now xs)) := by
  have hnb := strT_ne h.tv h.pg (by decide)
  have hver : 0 ≤ p.g.ver ∧ p.g.ver ≤ 4611686018427387904 := ⟨h.ver0, Int.le_trans h.verV hV⟩
  obtain ⟨es, cl, hm1, hm2, hm3, hm4⟩ := h.map
  have hf : ∀ s, faultG p.m s = faultS (ruleOfs p.xs) s := fun s => fault_same h.rmap hm4 h.okx s
  rcases ht with ⟨rfl, rfl⟩ | ⟨bb, off, cap, rfl, hbb, hc⟩
  · exact ghWrite_nil p.gb p.g p.now (ruleOfs p.xs) w h.pg h.lk h.cl h.tv.strs h.nl hnb hver
  · unfold wrRes
    split
    · rename_i h20
      refine (ghWrite_full p.gb p.g _ _ _ w h.pg h.lk h.cl h20 hl).mono ?_
      rintro e w' ⟨rfl, h1, h2⟩
      exact ⟨h2, rfl, h1⟩
    · exact ghWrite_open p.gb p.g p.m (ruleOfs p.xs) p.now xs bb off cap w h.pg h.lk h.cl h.rmap.ways ⟨es, cl, hm1, hm2, hm3, hm4⟩ hf h.tv.strs h.sorted h.nl hnb hc hbb (by omega) hsz hver
theorem pairRW {w w3 : World} {B : Nat} {V : Int} {p : PS} (h : PairOk w B V p) (hrg : RgAt w3 p.rb p.r) (hru : w3.ownsRow p.lo 163 2 p.r.rulesV (ruleOfs p.xs).length (flR (ruleOfs p.xs))) (hnv : StrT w3 p.r.nowV p.now) (hV : V ≤ 4611686018427387904) {v : Value} {xs : List ByteArray}
    (ht : TxtS w3 v xs) (hl : xs.length ≤ maxLen) (hsz : ∀ x ∈ xs, x.size ≤ 140737488355328) :
    Calls Tryz.prog 35 #[.pointer (some ⟨p.rb, 0, none⟩), v] w3 (WPost w3 p.rb p.r (wrRes (ruleOfs p.xs) p.now xs)) := by
  have hnb := strT_ne hnv hrg (by decide)
  have hver : 0 ≤ p.r.version ∧ p.r.version ≤ 4611686018427387904 := by rw [← h.ver]; exact ⟨h.ver0, Int.le_trans h.verV hV⟩
  rcases ht with (⟨rfl, rfl⟩ | ⟨bb, off, cap, rfl, hc⟩) | ⟨a, rfl, rfl⟩
  · exact refWrite_nil p.rb p.r (ruleOfs p.xs) p.now w3 hrg h.rcl hnv h.nl hnb hver
  · unfold wrRes
    split
    · rename_i h20
      refine (refWrite_full p.rb p.r _ _ _ w3 hrg h.rcl h20 hl).mono ?_
      rintro e w' ⟨rfl, rfl⟩
      exact ⟨rfl, Below.refl _ _⟩
    · exact refWrite_open p.rb p.r (ruleOfs p.xs) p.now xs bb off cap w3 hrg h.rcl (owns_rules hru) (by unfold ruleOfs; rw [List.length_map]; exact h.few) hnv h.nl hc (by omega) hsz hnb hver
  · exact refWrite_zero a p.rb p.r (ruleOfs p.xs) p.now w3 hrg h.rcl hnv h.nl hnb hver
theorem PairOk.turn {X : Nat → Prop} {w w' : World} {B : Nat} {V V' : Int} {p : PS} (h : PairOk w B V p) (k : SK X w w') (g' : Pg) (r' : Rg) (now' : List ByteArray) (hpg : PgAt w' p.gb g') (hrg : RgAt w' p.rb r') (hmb : g'.mb = p.g.mb) (hrv : r'.rulesV = p.r.rulesV) (tv : StrT w' g'.tv now') (nv : StrT w' r'.nowV now') (hs : Sorted now') (nl : now'.length ≤ 50) (tup : ∀ s ∈ now', goodT (ruleOfs p.xs) s)
    (lk : g'.lk = 0) (cl : g'.cl = false) (rcl : r'.closed = false) (ver : g'.ver = r'.version) (ver0 : 0 ≤ g'.ver) (verV : g'.ver ≤ V') : PairOk w' B V' { p with g := g', r := r', now := now' } :=
  { pair := k.block _ _ h.pair (by show mutT 65 = false; decide) (Or.inl (by show gateT 65 = false; decide))
    pg := hpg
    rg := hrg
    map := by show MapAt w' HeadG g'.mb p.m; rw [hmb]; exact k.mapAt h.map
    rmap := k.rmap h.rmap
    rules := by show w'.ownsRow p.lo _ 2 r'.rulesV _ _; rw [hrv]; exact k.rules h.rules
    okx := h.okx
    few := h.few
    tv := tv
    nv := nv
    sorted := hs
    nl := nl
    tup := tup
    lk := lk
    cl := cl
    rcl := rcl
    ver := ver
    ver0 := ver0
    verV := verV
    gB := h.gB
    rB := h.rB }
def turns (p : PS) (k : Nat) : Prop := k = p.gb ∨ k = p.rb
/-- behind both Writes. -/
theorem pair_end {Z w w1 w2 w3 w4 : World} {B : Nat} {V : Int} {p : PS} {res : Sum (Nat × Int) (List ByteArray)} {xs : List ByteArray} {e2 e4 : Ending} (h : PairOk w B V p) (hres : wrRes (ruleOfs p.xs) p.now xs = res) (hb1 : Below w.heap.size w w1) (hp2 : PWPost w1 p.gb p.g res e2 w2) (h23 : ∀ k, k < w2.heap.size → (k < w.heap.size ∨ w1.heap.size ≤ k) → w3.heap[k]? = w2.heap[k]?) (c3 : Calm (turns p) w w3)
    (hZ : Z.heap.size ≤ p.gb ∧ Z.heap.size ≤ p.rb) (hb3 : Below Z.heap.size Z w3) (hp4 : WPost w3 p.rb p.r res e4 w4) :
    Calm (turns p) w w4 ∧ Below Z.heap.size Z w4 ∧ ∃ p', p'.pb = p.pb ∧ p'.gb = p.gb ∧ p'.rb = p.rb ∧ p'.xs = p.xs ∧ PairOk w4 B (V + 1) p' := by
  have hgw : p.gb < w.heap.size := row_lt h.pg
  have hrw : p.rb < w.heap.size := row_lt h.rg
  have hgr : p.gb ≠ p.rb := by
    intro e
    have a := h.pg; have b := h.rg
    unfold PgAt at a; unfold RgAt at b
    rw [e, b] at a; injection a with a; injection a with _ a; revert a; decide
  have hpg1 : PgAt w1 p.gb p.g := pg_below h.pg hb1
  have hs12 : w1.heap.size ≤ w2.heap.size := hp2.1.size
  have hg2 : p.gb < w2.heap.size := by have := hb1.size; omega
  have keep3 : ∀ g', PgAt w2 p.gb g' → PgAt w3 p.gb g' := fun g' hg => by unfold PgAt; rw [h23 _ hg2 (Or.inl hgw)]; exact hg
  have hrg3 : RgAt w3 p.rb p.r := by
    have a1 : w1.heap[p.rb]? = w.heap[p.rb]? := hb1.block _ hrw
    have a2 : w2.heap[p.rb]? = w1.heap[p.rb]? := hp2.1.block _ (by have := hb1.size; omega) (by intro e; injection e with e; exact hgr e.symm)
    unfold RgAt
    rw [h23 _ (by have := hb1.size; omega) (Or.inl hrw), a2, a1]; exact h.rg
  have hV0 : p.g.ver ≤ V + 1 := by have := h.verV; omega
  -- nothing but new blocks
  have calm : Below w3.heap.size w3 w4 → PgAt w2 p.gb p.g → Calm (turns p) w w4 ∧ Below Z.heap.size Z w4 ∧ ∃ p', p'.pb = p.pb ∧ p'.gb = p.gb ∧ p'.rb = p.rb ∧ p'.xs = p.xs ∧ PairOk w4 B (V + 1) p' := by
    intro hb4 hg
    have c4 := c3.trans (Calm.below hb4)
    exact ⟨c4, hb3.trans (hb4.mono hb3.size), _, rfl, rfl, rfl, rfl, h.turn c4.sk p.g p.r p.now (pg_below (keep3 _ hg) hb4) (rg_below hrg3 hb4) rfl rfl (c4.sk.strT h.tv) (c4.sk.strT h.nv) h.sorted h.nl h.tup h.lk h.cl h.rcl h.ver h.ver0 hV0⟩
  unfold PWPost at hp2
  unfold WPost at hp4
  rcases res with ⟨i, f⟩ | ys
  · exact calm hp4.2 hp2.2.2
  · dsimp only at hp2 hp4
    by_cases h5 : 50 < ys.length
    · rw [if_pos h5] at hp2 hp4
      exact calm hp4.2 hp2.2.2
    · rw [if_neg h5] at hp2 hp4
      obtain ⟨hk2, v, -, hg, hv⟩ := hp2
      obtain ⟨u, -, hr, hu, hk4⟩ := hp4
      have hv3 : w3.ownsRow w1.heap.size 9 1 v ys.length (strV ys) := owns_to hv fun g hgb => by obtain ⟨a, b, -⟩ := owns_lt hv g hgb; exact h23 g a (Or.inr b)
      have hv4 : w4.ownsRow w1.heap.size 9 1 v ys.length (strV ys) := owns_to hv3 fun g hgb => by
        obtain ⟨a, b, cur, hc⟩ := owns_lt hv3 g hgb
        refine hk4.block g a ?_
        intro e; injection e with e; subst e
        have b := hrg3
        unfold RgAt at b
        rw [hc] at b; injection b with b; injection b with _ b; revert b; decide
      have hg4 : PgAt w4 p.gb { p.g with tv := v, ver := p.g.ver + 1 } := by
        unfold PgAt
        rw [hk4.block p.gb (row_lt (keep3 _ hg)) (by intro e; injection e with e; exact hgr e)]
        exact keep3 _ hg
      have c4 : Calm (turns p) w w4 := c3.trans (Calm.gate hk4 hrg3 (by decide) (Or.inr rfl))
      exact ⟨c4, hb3.grown hk4 hb3.size (fun j hj => by injection hj with hj; rw [← hj]; exact hZ.2), { p with g := { p.g with tv := v, ver := p.g.ver + 1 }, r := { p.r with nowV := u, version := p.r.version + 1 }, now := ys }, rfl, rfl, rfl, rfl, h.turn c4.sk _ _ ys hg4 hr rfl rfl (owns_strT hv4) hu (wr_sorted h.sorted hres) (by omega) (wr_good h.tup hres) h.lk h.cl h.rcl (by show p.g.ver + 1 = p.r.version + 1; rw [h.ver]) (by show 0 ≤ p.g.ver + 1; have := h.ver0; omega) (by show p.g.ver + 1 ≤ V + 1; have := h.verV; omega)⟩

end Go.Proofs.YtalmoiogbdahcaaGreat

/- The statements' own first gates and first batch. -/
namespace Go.Proofs.YtalmoiogbdahcaaGreat
open Go.RowKit

def batch0 : List ByteArray := [{ data := #[43, 103, 114, 111, 117, 112, 58, 97, 35, 109, 101, 109, 98, 101, 114, 64, 117, 115, 101, 114, 58, 120] }, { data := #[43, 100, 111, 99, 58, 49, 35, 114, 101, 97, 100, 101, 114, 64, 103, 114, 111, 117, 112, 58, 97, 35, 109, 101, 109, 98, 101, 114] }]
set_option maxRecDepth 100000 in
theorem open_two : openRes rulesL 2 3 = none := by decide +kernel
set_option maxRecDepth 100000 in
theorem open_one : openRes rulesL 1 1 = none := by decide +kernel
set_option maxRecDepth 100000 in
theorem first_batch : (match wrRes (ruleOfs rulesL) [] batch0 with | .inr ys => decide (ys.length ≤ 50) | .inl _ => false) = true := by decide +kernel

end Go.Proofs.YtalmoiogbdahcaaGreat
