import Derived.Test.YtalmoiogbdahcaaGreatTSetA
import Derived.Test.YtalmoiogbdahcaaGreatTKrlC
namespace Go.Proofs.YtalmoiogbdahcaaGreat
set_option maxRecDepth 100000
set_option maxHeartbeats 8000000
open Go.RowKit Go.Shelf
theorem tv_poll {u : Int} {s0 : Nat} {i0 : Int} {k : Nat} {D : Dk} (h : TV u s0 i0 k D) : (pollR D 1).is = (if u <= k then 5 else i0) /\ (pollR D 1).st = s0 /\ (pollR D 2).is = 1 /\ (pollR D 3).is = 6 := by
 obtain ⟨a, b, c, hrs, hst, h1, h2, hb, -, hc, -⟩ := h.ex
 have e1 : pollR D 1 = a := pollR_at (D := D) (n := 0) (by rw [hrs]; rfl)
 have e2 : pollR D 2 = b := pollR_at (D := D) (n := 1) (by rw [hrs]; rfl)
 have e3 : pollR D 3 = c := pollR_at (D := D) (n := 2) (by rw [hrs]; rfl)
 rw [e1, e2, e3]
 refine ⟨?_, hst, hb, hc⟩
 by_cases hu : u <= k
 ·rw [if_pos hu]; exact (h1 hu).1
 ·rw [if_neg hu]; exact (h2 hu).1
theorem tv_closed {u : Int} {s0 : Nat} {i0 : Int} {k : Nat} {D : Dk} (h : TV u s0 i0 k D) : (pollR (cancelN D D.rs.length) 1).is = (if u <= k then 5 else 6) /\ (pollR (cancelN D D.rs.length) 2).is = 6 /\ cancelB (cancelN D D.rs.length) 2 = false /\ cancelD (cancelN D D.rs.length) 2 = cancelN D D.rs.length := by
 obtain ⟨a, b, c, hrs, ha, hb, hbt⟩ := h.close
 have h1 : (cancelN D D.rs.length).rs[1]? = some b := by rw [hrs]; rfl
 have e1 : pollR (cancelN D D.rs.length) 1 = a := pollR_at (n := 0) (by rw [hrs]; rfl)
 have e2 : pollR (cancelN D D.rs.length) 2 = b := pollR_at (n := 1) h1
 have e3 : cancelB (cancelN D D.rs.length) 2 = false := by
  have := cancelB_at h1
  rw [hbt] at this; exact this
 rw [e1, e2]
 refine ⟨ha, hb, e3, ?_⟩
 unfold cancelD
 rw [e3]; exact if_neg (by decide)
def stL (is : Int) (st : Nat) (al : Bool) (v : Value) : List Value := [.int .i64 is, .int .i64 st, .bool al, v]
theorem t_pollN {W : World} {gb : Nat} {n : Int} {now : List ByteArray} {D : Dk} {cl : Bool} {Ls : List (Nat × List Value)} {w : World} (h : TSt W gb n now D cl Ls w) (id : Int) {is : Int} (hi : (pollR D id).is = is) :
  Calls Tryz.prog 29 #[.pointer (some ⟨gb, 0, none⟩), .int .i64 id] w fun e w' => ∃ al o c m, e = .returned (.agg #[.int .i64 is, .int .i64 (pollR D id).st, .bool al, .slice o m c]) /\ w.heap.size <= w'.heap.size /\ W.heap.size <= w'.heap.size /\ Hid (TSt W gb n now D cl ((w'.heap.size, stL is (pollR D id).st al (.slice o m c)) :: Ls) (w'.alloc (.cells #[.int .i64 is, .int .i64 (pollR D id).st, .bool al, .slice o m c] 51))) := by
 refine (t_poll h id).mono ?_
 rintro e w' ⟨o, c, rfl, -, hz, ht⟩
 rw [hi]
 exact ⟨_, o, c, _, rfl, hz, ht.below.size, ht.add _⟩
theorem t_pollS {W : World} {gb : Nat} {n : Int} {now : List ByteArray} {D : Dk} {cl : Bool} {Ls : List (Nat × List Value)} {w : World} (h : TSt W gb n now D cl Ls w) (id : Int) {is : Int} (hi : (pollR D id).is = is) {b : Nat} {i0 : Int} {s0 : Nat} {al0 : Bool} {v0 : Value} (hb : (b, stL i0 s0 al0 v0) ∈ Ls) (hW : W.heap.size <= b) {Ls0 : List (Nat × List Value)} (hL : ∀ p ∈ Ls0, p ∈ Ls /\ p.1 ≠ b) :
  Calls Tryz.prog 29 #[.pointer (some ⟨gb, 0, none⟩), .int .i64 id] w fun e w' => ∃ st : Nat, ∃ al o c m, e = .returned (.agg #[.int .i64 is, .int .i64 st, .bool al, .slice o m c]) /\ Hid (w'.heap[b]? = some (.cells (stL i0 s0 al0 v0).toArray 51 (0, 0))) /\ Hid (TSt W gb n now D cl ((b, stL is st al (.slice o m c)) :: Ls0) ((((w'.setCell ⟨b, 0, none⟩ (.int .i64 is)).setCell ⟨b, 1, none⟩ (.int .i64 st)).setCell ⟨b, 2, none⟩ (.bool al)).setCell ⟨b, 3, none⟩ (.slice o m c))) := by
 refine (t_poll h id).mono ?_
 rintro e w' ⟨o, c, rfl, -, -, ht⟩
 rw [hi]
 have hg := ht.get hb
 refine ⟨_, _, o, c, _, rfl, hg, ?_⟩
 refine ht.set hb hW ((((frm_set _ _ _ _).trans (frm_set _ _ _ _) fun _ _ e => e).trans (frm_set _ _ _ _) fun _ _ e => e).trans (frm_set _ _ _ _) fun _ _ e => e) (row_set (row_set (row_set (row_set hg 0 _) 1 _) 2 _) 3 _) fun p hp => ?_
 rcases List.mem_cons.1 hp with e | e
 ·exact Or.inl e
 ·exact Or.inr (hL p e)
theorem t_polls {w : World} {gb : Nat} {u : Int} {s0 : Nat} {i0 : Int} {k : Nat} {want : Int} (hw : (if u <= k then 5 else i0) = want) {w1 : World} {D : Dk} (hv : TV u s0 i0 k D) (ht : TSt w gb 1 know0 D false [] w1) :
  Calls Tryz.prog 29 #[.pointer (some ⟨gb, 0, none⟩), .int .i64 1] w1 fun e w2 => ∃ al o c m, e = .returned (.agg #[.int .i64 want, .int .i64 s0, .bool al, .slice o m c]) /\
   Hid (Calls Tryz.prog 29 #[.pointer (some ⟨gb, 0, none⟩), .int .i64 2] (w2.alloc (.cells #[.int .i64 want, .int .i64 s0, .bool al, .slice o m c] 51)) fun e w3 => ∃ (st2 : Nat), ∃ al2 o2 c2 m2, e = .returned (.agg #[.int .i64 1, .int .i64 st2, .bool al2, .slice o2 m2 c2]) /\
    Hid (Calls Tryz.prog 29 #[.pointer (some ⟨gb, 0, none⟩), .int .i64 3] (w3.alloc (.cells #[.int .i64 1, .int .i64 st2, .bool al2, .slice o2 m2 c2] 51)) fun e w4 => ∃ (st3 : Nat), ∃ al3 o3 c3 m3, e = .returned (.agg #[.int .i64 6, .int .i64 st3, .bool al3, .slice o3 m3 c3]) /\
     Hid (w.heap.size <= w2.heap.size /\ w2.heap.size < w3.heap.size /\ w3.heap.size < w4.heap.size /\ TSt w gb 1 know0 D false [(w4.heap.size, stL 6 st3 al3 (.slice o3 m3 c3)), (w3.heap.size, stL 1 st2 al2 (.slice o2 m2 c2)), (w2.heap.size, stL want s0 al (.slice o m c))] (w4.alloc (.cells #[.int .i64 6, .int .i64 st3, .bool al3, .slice o3 m3 c3] 51))))) := by
 obtain ⟨p1, p2, p3, p4⟩ := tv_poll hv
 rw [hw] at p1
 refine (t_pollN ht 1 p1).mono ?_
 rintro e w2 ⟨al, o, c, m, he, -, z2, HT2⟩
 rw [p2] at he HT2
 refine ⟨al, o, c, m, he, ?_⟩
 refine (t_pollN HT2.out 2 p3).mono ?_
 rintro e w3 ⟨al2, o2, c2, m2, he3, z3, -, HT3⟩
 refine ⟨_, al2, o2, c2, m2, he3, ?_⟩
 refine (t_pollN HT3.out 3 p4).mono ?_
 rintro e w4 ⟨al3, o3, c3, m3, he4, z4, -, HT4⟩
 have s3 : ∀ (v : World) (o : Obj), (v.alloc o).heap.size = v.heap.size + 1 := fun v o => by show (v.heap.push _).size = _; simp
 rw [s3] at z3 z4
 exact ⟨_, al3, o3, c3, m3, he4, z2, by omega, by omega, HT4.out⟩
theorem t_closes (HN : Hid NodeC) (HW : Hid TWayC) {w : World} {gb : Nat} {u : Int} {s0 : Nat} {i0 : Int} {k : Nat} {wc : Int} (hw : (if u <= k then 5 else 6) = wc) {w5 : World} {D : Dk} (hv : TV u s0 i0 k D) {b1 b2 b3 : Nat} {l3 : List Value} {i1 i2 : Int} {s1 s2 : Nat} {a1 a2 : Bool} {v1 v2 : Value} (hb1 : w.heap.size <= b1) (h12 : b1 < b2) (ht : TSt w gb 1 know0 D false [(b3, l3), (b2, stL i2 s2 a2 v2), (b1, stL i1 s1 a1 v1)] w5) :
  Calls Tryz.prog 32 #[.pointer (some ⟨gb, 0, none⟩)] w5 fun e w6 => e = .returned (.tuple #[]) /\
   Hid (Calls Tryz.prog 29 #[.pointer (some ⟨gb, 0, none⟩), .int .i64 1] w6 fun e w7 => ∃ st : Nat, ∃ al o c m, e = .returned (.agg #[.int .i64 wc, .int .i64 st, .bool al, .slice o m c]) /\ Hid (w7.heap[b1]? = some (.cells (stL i1 s1 a1 v1).toArray 51 (0, 0))) /\
    Hid (Calls Tryz.prog 29 #[.pointer (some ⟨gb, 0, none⟩), .int .i64 2] ((((w7.setCell ⟨b1, 0, none⟩ (.int .i64 wc)).setCell ⟨b1, 1, none⟩ (.int .i64 st)).setCell ⟨b1, 2, none⟩ (.bool al)).setCell ⟨b1, 3, none⟩ (.slice o m c)) fun e w8 => ∃ st' : Nat, ∃ al' o' c' m', e = .returned (.agg #[.int .i64 6, .int .i64 st', .bool al', .slice o' m' c']) /\ Hid (w8.heap[b2]? = some (.cells (stL i2 s2 a2 v2).toArray 51 (0, 0))) /\
     Hid (Calls Tryz.prog 30 #[.pointer (some ⟨gb, 0, none⟩), .int .i64 2] ((((w8.setCell ⟨b2, 0, none⟩ (.int .i64 6)).setCell ⟨b2, 1, none⟩ (.int .i64 st')).setCell ⟨b2, 2, none⟩ (.bool al')).setCell ⟨b2, 3, none⟩ (.slice o' m' c')) fun e w9 => e = .returned (.bool false) /\
      Hid (Calls Tryz.prog 27 #[.pointer (some ⟨gb, 0, none⟩), .string q1B, .int .i64 1, .int .i64 100] w9 fun e w10 => e = .returned (.tuple #[.int .i64 0, .int .i64 7]) /\
       Hid (Calls Tryz.prog 28 #[.pointer (some ⟨gb, 0, none⟩), .int .i64 0] w10 fun e w11 => e = .returned (.int .i64 7) /\
        Hid (Calls Tryz.prog 21 #[.pointer (some ⟨gb, 0, none⟩), .string kq0] w11 fun e w12 => e = .returned (.tuple #[.bool true, .int .i64 0]) /\ w12.cell? ⟨b1, 0, none⟩ = some (.int .i64 wc) /\ w12.cell? ⟨b2, 0, none⟩ = some (.int .i64 6) /\ Hid (Below w.heap.size w w12))))))) := by
 obtain ⟨p1, p2, p3, p4⟩ := tv_closed hv
 rw [hw] at p1
 refine (t_close ht).mono ?_
 rintro e w6 ⟨he6, ht6⟩
 refine ⟨he6, ?_⟩
 refine (t_pollS ht6 1 p1 (b := b1) (.tail _ (.tail _ (.head _))) hb1 (Ls0 := [(b2, stL i2 s2 a2 v2)]) (fun p hp => by
  rw [List.mem_singleton] at hp
  subst hp
  exact ⟨.tail _ (.head _), by show b2 ≠ b1; omega⟩)).mono ?_
 rintro e w7 ⟨st, al, o, c, m, he7, hk7, HT7⟩
 refine ⟨st, al, o, c, m, he7, hk7, ?_⟩
 refine (t_pollS HT7.out 2 p2 (b := b2) (.tail _ (.head _)) (by omega) (Ls0 := [(b1, stL wc st al (.slice o m c))]) (fun p hp => by
  rw [List.mem_singleton] at hp
  subst hp
  exact ⟨.head _, by show b1 ≠ b2; omega⟩)).mono ?_
 rintro e w8 ⟨st', al', o', c', m', he8, hk8, HT8⟩
 refine ⟨st', al', o', c', m', he8, hk8, ?_⟩
 have h9 := t_cancel HT8.out 2
 rw [p3, p4] at h9
 refine h9.mono ?_
 rintro e w9 ⟨he9, ht9⟩
 refine ⟨he9, ?_⟩
 refine (t_subc ht9 q1B 1 100).mono ?_
 rintro e w10 ⟨he10, ht10⟩
 refine ⟨he10, ?_⟩
 refine (t_stepc ht10 0).mono ?_
 rintro e w11 ⟨he11, ht11⟩
 refine ⟨he11, ?_⟩
 refine (t_check HN HW ht11).mono ?_
 rintro e w12 ⟨he12, ht12⟩
 exact ⟨he12, row_cell (ht12.get (.tail _ (.head _))) (j := 0) rfl, row_cell (ht12.get (.head _)) (j := 0) rfl, ht12.below⟩
theorem pick12 (x : Int) (h1 : -9223372036854775808 <= x) (h2 : x <= 9223372036854775807) : ∃ k : Nat, k < 12 /\ ∀ w1, Calls Tryz.prog 17 #[.int .i64 x, .int .i64 12] w1 fun e w' => e = .returned (.int .i64 (k : Nat)) /\ w' = w1 := by
 obtain ⟨b1, b2⟩ := pickN_bd x 12 (by decide)
 have hpk := fun w1 => kPick_any x 12 w1 h1 h2 (by decide) (by decide)
 obtain ⟨f, hf⟩ := Int.eq_ofNat_of_zero_le b1
 rw [hf] at hpk b2
 exact ⟨f, by omega, hpk⟩
theorem timed_Sl (HN : Hid NodeC) (HW : Hid TWayC) (w : World) (a b c : Int) {u k : Nat} (hu : u < 12) (hk : k < 12) (HP1 : Hid (∀ w1, Calls Tryz.prog 17 #[.int .i64 a, .int .i64 12] w1 fun e w' => e = .returned (.int .i64 (u : Nat)) /\ w' = w1)) (HP2 : Hid (∀ w1, Calls Tryz.prog 17 #[.int .i64 b, .int .i64 12] w1 fun e w' => e = .returned (.int .i64 (k : Nat)) /\ w' = w1))
  (hs : 0 < u) (hc : (c.tmod 2 == 0) = true) (hl : u <= k) :
  Calls Tryz.prog 11 #[.int .i64 a, .int .i64 b, .int .i64 c] w fun e w' => e = .returned (.bool true) /\ Below w.heap.size w w' := by
 have HOP : Hid (Calls Tryz.prog 14 #[.int .i64 2, .int .i64 6] w fun e w' => ∃ gb, e = .returned (.pointer (some ⟨gb, 0, none⟩)) /\ TSt w gb 1 know0 (newD 2 6) false [] w') := t_open HN HW w 2 6 (by decide) (by decide) (by decide) (by decide)
 have HS1 : Hid (∀ gb w1, TSt w gb 1 know0 (newD 2 6) false [] w1 -> Calls Tryz.prog 27 #[.pointer (some ⟨gb, 0, none⟩), .string ⟨#[100, 111, 99, 58, 122, 35, 114, 101, 97, 100, 101, 114]⟩, .int .i64 100, .int .i64 (u : Nat)] w1 fun e w' => e = .returned (.tuple #[.int .i64 1, .int .i64 0]) /\ Hid (TSt w gb 1 know0 (takeD (newD 2 6) (tkOf know0 q1B 100 u)) false [] w')) := fun gb w1 h => t_submit HN (s := q1B) h (by unfold maxLen; decide) q1_ok (by decide) (by decide) (by omega) (by omega) (tD1_full u).1
 have HS2 : Hid (∀ gb w1, TSt w gb 1 know0 (takeD (newD 2 6) (tkOf know0 q1B 100 u)) false [] w1 -> Calls Tryz.prog 27 #[.pointer (some ⟨gb, 0, none⟩), .string ⟨#[100, 111, 99, 58, 121, 35, 114, 101, 97, 100, 101, 114, 64, 117, 115, 101, 114, 58, 122]⟩, .int .i64 100, .int .i64 100] w1 fun e w' => e = .returned (.tuple #[.int .i64 2, .int .i64 0]) /\ Hid (TSt w gb 1 know0 (takeD (takeD (newD 2 6) (tkOf know0 q1B 100 u)) (tkOf know0 q2B 100 100)) false [] w')) := fun gb w1 h => t_submit HN (s := q2B) h (by unfold maxLen; decide) q2_ok (by decide) (by decide) (by decide) (by decide) (tD1_full u).2.1
 have HS3 : Hid (∀ gb w1, TSt w gb 1 know0 (takeD (takeD (newD 2 6) (tkOf know0 q1B 100 u)) (tkOf know0 q2B 100 100)) false [] w1 -> Calls Tryz.prog 27 #[.pointer (some ⟨gb, 0, none⟩), .string ⟨#[100, 111, 99, 58, 120, 35, 101, 100, 105, 116, 111, 114]⟩, .int .i64 100, .int .i64 100] w1 fun e w' => e = .returned (.tuple #[.int .i64 3, .int .i64 0]) /\ Hid (TSt w gb 1 know0 (tD u) false [] w')) := fun gb w1 h => t_submit HN (s := q3B) h (by unfold maxLen; decide) q3_ok (by decide) (by decide) (by decide) (by decide) (tD1_full u).2.2
 have HST : Hid (∀ gb w1, TSt w gb 1 know0 (tD u) false [] w1 -> Calls Tryz.prog 28 #[.pointer (some ⟨gb, 0, none⟩), .int .i64 1] w1 fun e w' => e = .returned (.int .i64 0) /\ ∃ D, Hid (D.rs = [⟨2, 1, false, [], some (tkOf know0 q1B 100 u)⟩, newR (tkOf know0 q2B 100 100), newR (tkOf know0 q3B 100 100)] /\ D.clock = 0 /\ TSt w gb 1 know0 D false [] w')) := by
  intro gb w1 h
  refine (t_step HW h (i := 1) (by show 1 < 2; decide)).mono ?_
  rintro e w' ⟨he, D, hd, ht⟩
  obtain ⟨h1, h2⟩ := tD_step (u := (u : Int)) (by omega) hd
  exact ⟨he, D, h1, h2, ht⟩
 have HCA : Hid (∀ gb w1 D, (D.rs = [⟨2, 1, false, [], some (tkOf know0 q1B 100 u)⟩, newR (tkOf know0 q2B 100 100), newR (tkOf know0 q3B 100 100)] /\ D.clock = 0 /\ TSt w gb 1 know0 D false [] w1) -> Calls Tryz.prog 30 #[.pointer (some ⟨gb, 0, none⟩), .int .i64 3] w1 fun e w' => e = .returned (.bool true) /\ Hid (Calls Tryz.prog 30 #[.pointer (some ⟨gb, 0, none⟩), .int .i64 3] w' fun e w'' => e = .returned (.bool false) /\ ∃ D', Hid (TV u 1 2 0 D' /\ TSt w gb 1 know0 D' false [] w''))) := by
  rintro gb w1 D ⟨hrs, hcl, ht⟩
  obtain ⟨b1, b2, b3⟩ := TV.begin (u := (u : Int)) (s0 := 1) (i0 := 2) hrs hcl rfl (fun e => by omega) (fun _ => ⟨rfl, _, rfl, rfl⟩) rfl ⟨_, rfl, rfl⟩ (by show some _ ≠ none; simp)
  refine (t_cancel ht 3).mono ?_
  rintro e w' ⟨rfl, ht'⟩
  refine ⟨by rw [b1], ?_⟩
  refine (t_cancel ht' 3).mono ?_
  rintro e w'' ⟨rfl, ht''⟩
  exact ⟨by rw [b2], _, b3, ht''⟩
 have HTI : Hid (∀ gb w1 (j : Nat), j < 12 -> (∃ D, TV u 1 2 j D /\ TSt w gb 1 know0 D false [] w1) -> Calls Tryz.prog 31 #[.pointer (some ⟨gb, 0, none⟩)] w1 fun e w' => e = .returned (.tuple #[]) /\ Hid (∃ D, TV u 1 2 (j + 1) D /\ TSt w gb 1 know0 D false [] w')) := by
  rintro gb w1 j hj ⟨D, hv, ht⟩
  refine (t_tick ht).mono ?_
  rintro e w' ⟨he, ht'⟩
  exact ⟨he, _, hv.tick hj, ht'⟩
 have HPO : Hid (∀ gb w1 D, TV u 1 2 k D -> TSt w gb 1 know0 D false [] w1 -> Calls Tryz.prog 29 #[.pointer (some ⟨gb, 0, none⟩), .int .i64 1] w1 _) := fun gb w1 D hv ht => t_polls (want := 5) (by rw [if_pos (show (u : Int) <= (k : Nat) by omega)]) hv ht
 have HCL : Hid (∀ gb w5 D b1 b2 b3 l3 i1 i2 s1 s2 a1 a2 v1 v2, TV u 1 2 k D -> w.heap.size <= b1 -> b1 < b2 -> TSt w gb 1 know0 D false [(b3, l3), (b2, stL i2 s2 a2 v2), (b1, stL i1 s1 a1 v1)] w5 -> Calls Tryz.prog 32 #[.pointer (some ⟨gb, 0, none⟩)] w5 _) := fun gb w5 D b1 b2 b3 l3 i1 i2 s1 s2 a1 a2 v1 v2 hv hb1 h12 ht => t_closes HN HW (wc := 5) (by rw [if_pos (show (u : Int) <= (k : Nat) by omega)]) hv hb1 h12 ht
 have hle : decide ((u : Int) <= (k : Nat)) = true := decide_eq_true (by omega)
 have hgt : decide ((k : Nat) < (u : Int)) = false := decide_eq_false (by omega)
 have hug : decide ((0 : Int) < (u : Nat)) = true := decide_eq_true (by omega)
 clear HN HW
 unfold q1B kq0 at HCL
 go_enter Tryz.func11, Tryz.ntmps11
 go_wp2_with (first
  | (go_at_call 14; refine HOP.out.mono ?_; rintro e w1 ⟨gb, rfl, ht⟩; have HT1 : Hid (TSt w gb 1 know0 (newD 2 6) false [] w1) := ht; clear ht HOP)
  | (go_at_call 17; refine (HP1.out _).mono ?_; rintro e w2 ⟨rfl, hw2⟩; subst w2; clear HP1)
  | (go_at_call 17; refine (HP2.out _).mono ?_; rintro e w2 ⟨rfl, hw2⟩; subst w2; clear HP2)
  | (go_at_call 27; refine (HS1.out gb _ HT1.out).mono ?_; rintro e w2 ⟨rfl, HT2⟩; clear HS1 HT1)
  | (go_at_call 27; refine (HS2.out gb _ HT2.out).mono ?_; rintro e w3 ⟨rfl, HT3⟩; clear HS2 HT2)
  | (go_at_call 27; refine (HS3.out gb _ HT3.out).mono ?_; rintro e w4 ⟨rfl, HT4⟩; clear HS3 HT3)
  | (go_at_call 28; refine (HST.out gb _ HT4.out).mono ?_; rintro e w5 ⟨rfl, D5, HD5⟩; clear HST HT4)
  | (go_at_call 30; refine (HCA.out gb _ _ HD5.out).mono ?_; rintro e w6 ⟨rfl, HC2⟩; clear HCA)
  | (go_at_call 30; refine (Calls.mono HC2.out) ?_; rintro e w7 ⟨rfl, D7, HD7⟩; clear HC2))
 go_loopw [20] (fun i wr => ∃ j : Nat, j <= k /\ i = .int .i64 j /\ ∃ D, TV u 1 2 j D /\ TSt w gb 1 know0 D false [] wr) (fun i _ => k - (intOf i).toNat)
 case atStart => exact ⟨0, Nat.zero_le _, rfl, D7, HD7.out.1, HD7.out.2⟩
 case round =>
  obtain ⟨j, hj, rfl, hD⟩ := hrel
  have HDJ : Hid (∃ D, TV u 1 2 j D /\ TSt w gb 1 know0 D false [] wr) := hD
  clear hD HD7
  by_cases hlt : j < k
  ·have HTK : Hid (Calls Tryz.prog 31 #[.pointer (some ⟨gb, 0, none⟩)] wr _) := HTI.out gb wr j (by omega) HDJ.out
   clear HDJ HTI HPO HCL
   go_wp2_with (go_at_call 31; refine (Calls.mono HTK.out) ?_; rintro e w8 ⟨rfl, HD8⟩)
   go_roundw
   case rel => exact ⟨j + 1, by omega, by go_num, HD8.out⟩
   case measure => simp [intOf]; omega
  ·obtain rfl : j = k := by omega
   obtain ⟨D8, hv8, ht8⟩ := HDJ.out
   have HV : Hid (TV u 1 2 j D8) := hv8
   have HPA : Hid (Calls Tryz.prog 29 #[.pointer (some ⟨gb, 0, none⟩), .int .i64 1] wr _) := HPO.out gb wr D8 hv8 ht8
   clear HDJ HTI HPO hv8 ht8
   go_wp2_with (first
    | (go_at_call 29; refine (Calls.mono HPA.out) ?_; rintro e w2 ⟨al, o, c, m, rfl, HPB⟩; clear HPA)
    | (go_at_call 29; refine (Calls.mono HPB.out) ?_; rintro e w3 ⟨st2, al2, o2, c2, m2, rfl, HPC⟩; clear HPB)
    | (go_at_call 29; refine (Calls.mono HPC.out) ?_; rintro e w4 ⟨st3, al3, o3, c3, m3, rfl, HF⟩; clear HPC; have g1 := row_cell (HF.out.2.2.2.get (.tail _ (.tail _ (.head _)))) (j := 0) rfl; have g2 := row_cell (HF.out.2.2.2.get (.tail _ (.tail _ (.head _)))) (j := 1) rfl; have g3 := row_cell (HF.out.2.2.2.get (.tail _ (.head _))) (j := 0) rfl; have g4 := row_cell (HF.out.2.2.2.get (.head _)) (j := 0) rfl; have HCZ : Hid _ := HCL.out gb _ D8 _ _ _ _ _ _ _ _ _ _ _ _ HV.out HF.out.1 HF.out.2.1 HF.out.2.2.2; clear HCL)
    | (go_at_call 32; refine (Calls.mono HCZ.out) ?_; rintro e w6 ⟨rfl, HPD⟩; clear HCZ g1 g2 g3 g4 HF)
    | (go_at_call 29; refine (Calls.mono HPD.out) ?_; rintro e w7 ⟨st7, al7, o7, c7, m7, rfl, HB7, HPE⟩; clear HPD; have q0 := row_cell HB7.out (j := 0) rfl; have q1 := row_cell HB7.out (j := 1) rfl; have q2 := row_cell HB7.out (j := 2) rfl; have q3 := row_cell HB7.out (j := 3) rfl; have z0 := row_frozen HB7.out 0; have z1 := row_frozen HB7.out 1; have z2 := row_frozen HB7.out 2; have z3 := row_frozen HB7.out 3)
    | (go_at_call 29; refine (Calls.mono HPE.out) ?_; rintro e w8 ⟨st8, al8, o8, c8, m8, rfl, HB8, HCE⟩; clear HPE q0 q1 q2 q3 z0 z1 z2 z3; have q0 := row_cell HB8.out (j := 0) rfl; have q1 := row_cell HB8.out (j := 1) rfl; have q2 := row_cell HB8.out (j := 2) rfl; have q3 := row_cell HB8.out (j := 3) rfl; have z0 := row_frozen HB8.out 0; have z1 := row_frozen HB8.out 1; have z2 := row_frozen HB8.out 2; have z3 := row_frozen HB8.out 3)
    | (go_at_call 30; refine (Calls.mono HCE.out) ?_; rintro e w9 ⟨rfl, HSE⟩; clear HCE q0 q1 q2 q3 z0 z1 z2 z3)
    | (go_at_call 27; refine (Calls.mono HSE.out) ?_; rintro e w10 ⟨rfl, HTE⟩; clear HSE)
    | (go_at_call 28; refine (Calls.mono HTE.out) ?_; rintro e w11 ⟨rfl, HKE⟩; clear HTE)
    | (go_at_call 21; refine (Calls.mono HKE.out) ?_; rintro e w12 ⟨rfl, r1, r2, HB12⟩; clear HKE))
   go_ret
   exact ⟨rfl, HB12.out⟩
theorem timed_So (HN : Hid NodeC) (HW : Hid TWayC) (w : World) (a b c : Int) {u k : Nat} (hu : u < 12) (hk : k < 12) (HP1 : Hid (∀ w1, Calls Tryz.prog 17 #[.int .i64 a, .int .i64 12] w1 fun e w' => e = .returned (.int .i64 (u : Nat)) /\ w' = w1)) (HP2 : Hid (∀ w1, Calls Tryz.prog 17 #[.int .i64 b, .int .i64 12] w1 fun e w' => e = .returned (.int .i64 (k : Nat)) /\ w' = w1))
  (hs : 0 < u) (hc : (c.tmod 2 == 0) = true) (hl : ¬ u <= k) :
  Calls Tryz.prog 11 #[.int .i64 a, .int .i64 b, .int .i64 c] w fun e w' => e = .returned (.bool true) /\ Below w.heap.size w w' := by
 have HOP : Hid (Calls Tryz.prog 14 #[.int .i64 2, .int .i64 6] w fun e w' => ∃ gb, e = .returned (.pointer (some ⟨gb, 0, none⟩)) /\ TSt w gb 1 know0 (newD 2 6) false [] w') := t_open HN HW w 2 6 (by decide) (by decide) (by decide) (by decide)
 have HS1 : Hid (∀ gb w1, TSt w gb 1 know0 (newD 2 6) false [] w1 -> Calls Tryz.prog 27 #[.pointer (some ⟨gb, 0, none⟩), .string ⟨#[100, 111, 99, 58, 122, 35, 114, 101, 97, 100, 101, 114]⟩, .int .i64 100, .int .i64 (u : Nat)] w1 fun e w' => e = .returned (.tuple #[.int .i64 1, .int .i64 0]) /\ Hid (TSt w gb 1 know0 (takeD (newD 2 6) (tkOf know0 q1B 100 u)) false [] w')) := fun gb w1 h => t_submit HN (s := q1B) h (by unfold maxLen; decide) q1_ok (by decide) (by decide) (by omega) (by omega) (tD1_full u).1
 have HS2 : Hid (∀ gb w1, TSt w gb 1 know0 (takeD (newD 2 6) (tkOf know0 q1B 100 u)) false [] w1 -> Calls Tryz.prog 27 #[.pointer (some ⟨gb, 0, none⟩), .string ⟨#[100, 111, 99, 58, 121, 35, 114, 101, 97, 100, 101, 114, 64, 117, 115, 101, 114, 58, 122]⟩, .int .i64 100, .int .i64 100] w1 fun e w' => e = .returned (.tuple #[.int .i64 2, .int .i64 0]) /\ Hid (TSt w gb 1 know0 (takeD (takeD (newD 2 6) (tkOf know0 q1B 100 u)) (tkOf know0 q2B 100 100)) false [] w')) := fun gb w1 h => t_submit HN (s := q2B) h (by unfold maxLen; decide) q2_ok (by decide) (by decide) (by decide) (by decide) (tD1_full u).2.1
 have HS3 : Hid (∀ gb w1, TSt w gb 1 know0 (takeD (takeD (newD 2 6) (tkOf know0 q1B 100 u)) (tkOf know0 q2B 100 100)) false [] w1 -> Calls Tryz.prog 27 #[.pointer (some ⟨gb, 0, none⟩), .string ⟨#[100, 111, 99, 58, 120, 35, 101, 100, 105, 116, 111, 114]⟩, .int .i64 100, .int .i64 100] w1 fun e w' => e = .returned (.tuple #[.int .i64 3, .int .i64 0]) /\ Hid (TSt w gb 1 know0 (tD u) false [] w')) := fun gb w1 h => t_submit HN (s := q3B) h (by unfold maxLen; decide) q3_ok (by decide) (by decide) (by decide) (by decide) (tD1_full u).2.2
 have HST : Hid (∀ gb w1, TSt w gb 1 know0 (tD u) false [] w1 -> Calls Tryz.prog 28 #[.pointer (some ⟨gb, 0, none⟩), .int .i64 1] w1 fun e w' => e = .returned (.int .i64 0) /\ ∃ D, Hid (D.rs = [⟨2, 1, false, [], some (tkOf know0 q1B 100 u)⟩, newR (tkOf know0 q2B 100 100), newR (tkOf know0 q3B 100 100)] /\ D.clock = 0 /\ TSt w gb 1 know0 D false [] w')) := by
  intro gb w1 h
  refine (t_step HW h (i := 1) (by show 1 < 2; decide)).mono ?_
  rintro e w' ⟨he, D, hd, ht⟩
  obtain ⟨h1, h2⟩ := tD_step (u := (u : Int)) (by omega) hd
  exact ⟨he, D, h1, h2, ht⟩
 have HCA : Hid (∀ gb w1 D, (D.rs = [⟨2, 1, false, [], some (tkOf know0 q1B 100 u)⟩, newR (tkOf know0 q2B 100 100), newR (tkOf know0 q3B 100 100)] /\ D.clock = 0 /\ TSt w gb 1 know0 D false [] w1) -> Calls Tryz.prog 30 #[.pointer (some ⟨gb, 0, none⟩), .int .i64 3] w1 fun e w' => e = .returned (.bool true) /\ Hid (Calls Tryz.prog 30 #[.pointer (some ⟨gb, 0, none⟩), .int .i64 3] w' fun e w'' => e = .returned (.bool false) /\ ∃ D', Hid (TV u 1 2 0 D' /\ TSt w gb 1 know0 D' false [] w''))) := by
  rintro gb w1 D ⟨hrs, hcl, ht⟩
  obtain ⟨b1, b2, b3⟩ := TV.begin (u := (u : Int)) (s0 := 1) (i0 := 2) hrs hcl rfl (fun e => by omega) (fun _ => ⟨rfl, _, rfl, rfl⟩) rfl ⟨_, rfl, rfl⟩ (by show some _ ≠ none; simp)
  refine (t_cancel ht 3).mono ?_
  rintro e w' ⟨rfl, ht'⟩
  refine ⟨by rw [b1], ?_⟩
  refine (t_cancel ht' 3).mono ?_
  rintro e w'' ⟨rfl, ht''⟩
  exact ⟨by rw [b2], _, b3, ht''⟩
 have HTI : Hid (∀ gb w1 (j : Nat), j < 12 -> (∃ D, TV u 1 2 j D /\ TSt w gb 1 know0 D false [] w1) -> Calls Tryz.prog 31 #[.pointer (some ⟨gb, 0, none⟩)] w1 fun e w' => e = .returned (.tuple #[]) /\ Hid (∃ D, TV u 1 2 (j + 1) D /\ TSt w gb 1 know0 D false [] w')) := by
  rintro gb w1 j hj ⟨D, hv, ht⟩
  refine (t_tick ht).mono ?_
  rintro e w' ⟨he, ht'⟩
  exact ⟨he, _, hv.tick hj, ht'⟩
 have HPO : Hid (∀ gb w1 D, TV u 1 2 k D -> TSt w gb 1 know0 D false [] w1 -> Calls Tryz.prog 29 #[.pointer (some ⟨gb, 0, none⟩), .int .i64 1] w1 _) := fun gb w1 D hv ht => t_polls (want := 2) (by rw [if_neg (show ¬ (u : Int) <= (k : Nat) by omega)]) hv ht
 have HCL : Hid (∀ gb w5 D b1 b2 b3 l3 i1 i2 s1 s2 a1 a2 v1 v2, TV u 1 2 k D -> w.heap.size <= b1 -> b1 < b2 -> TSt w gb 1 know0 D false [(b3, l3), (b2, stL i2 s2 a2 v2), (b1, stL i1 s1 a1 v1)] w5 -> Calls Tryz.prog 32 #[.pointer (some ⟨gb, 0, none⟩)] w5 _) := fun gb w5 D b1 b2 b3 l3 i1 i2 s1 s2 a1 a2 v1 v2 hv hb1 h12 ht => t_closes HN HW (wc := 6) (by rw [if_neg (show ¬ (u : Int) <= (k : Nat) by omega)]) hv hb1 h12 ht
 have hle : decide ((u : Int) <= (k : Nat)) = false := decide_eq_false (by omega)
 have hgt : decide ((k : Nat) < (u : Int)) = true := decide_eq_true (by omega)
 have hug : decide ((0 : Int) < (u : Nat)) = true := decide_eq_true (by omega)
 clear HN HW
 unfold q1B kq0 at HCL
 go_enter Tryz.func11, Tryz.ntmps11
 go_wp2_with (first
  | (go_at_call 14; refine HOP.out.mono ?_; rintro e w1 ⟨gb, rfl, ht⟩; have HT1 : Hid (TSt w gb 1 know0 (newD 2 6) false [] w1) := ht; clear ht HOP)
  | (go_at_call 17; refine (HP1.out _).mono ?_; rintro e w2 ⟨rfl, hw2⟩; subst w2; clear HP1)
  | (go_at_call 17; refine (HP2.out _).mono ?_; rintro e w2 ⟨rfl, hw2⟩; subst w2; clear HP2)
  | (go_at_call 27; refine (HS1.out gb _ HT1.out).mono ?_; rintro e w2 ⟨rfl, HT2⟩; clear HS1 HT1)
  | (go_at_call 27; refine (HS2.out gb _ HT2.out).mono ?_; rintro e w3 ⟨rfl, HT3⟩; clear HS2 HT2)
  | (go_at_call 27; refine (HS3.out gb _ HT3.out).mono ?_; rintro e w4 ⟨rfl, HT4⟩; clear HS3 HT3)
  | (go_at_call 28; refine (HST.out gb _ HT4.out).mono ?_; rintro e w5 ⟨rfl, D5, HD5⟩; clear HST HT4)
  | (go_at_call 30; refine (HCA.out gb _ _ HD5.out).mono ?_; rintro e w6 ⟨rfl, HC2⟩; clear HCA)
  | (go_at_call 30; refine (Calls.mono HC2.out) ?_; rintro e w7 ⟨rfl, D7, HD7⟩; clear HC2))
 go_loopw [20] (fun i wr => ∃ j : Nat, j <= k /\ i = .int .i64 j /\ ∃ D, TV u 1 2 j D /\ TSt w gb 1 know0 D false [] wr) (fun i _ => k - (intOf i).toNat)
 case atStart => exact ⟨0, Nat.zero_le _, rfl, D7, HD7.out.1, HD7.out.2⟩
 case round =>
  obtain ⟨j, hj, rfl, hD⟩ := hrel
  have HDJ : Hid (∃ D, TV u 1 2 j D /\ TSt w gb 1 know0 D false [] wr) := hD
  clear hD HD7
  by_cases hlt : j < k
  ·have HTK : Hid (Calls Tryz.prog 31 #[.pointer (some ⟨gb, 0, none⟩)] wr _) := HTI.out gb wr j (by omega) HDJ.out
   clear HDJ HTI HPO HCL
   go_wp2_with (go_at_call 31; refine (Calls.mono HTK.out) ?_; rintro e w8 ⟨rfl, HD8⟩)
   go_roundw
   case rel => exact ⟨j + 1, by omega, by go_num, HD8.out⟩
   case measure => simp [intOf]; omega
  ·obtain rfl : j = k := by omega
   obtain ⟨D8, hv8, ht8⟩ := HDJ.out
   have HV : Hid (TV u 1 2 j D8) := hv8
   have HPA : Hid (Calls Tryz.prog 29 #[.pointer (some ⟨gb, 0, none⟩), .int .i64 1] wr _) := HPO.out gb wr D8 hv8 ht8
   clear HDJ HTI HPO hv8 ht8
   go_wp2_with (first
    | (go_at_call 29; refine (Calls.mono HPA.out) ?_; rintro e w2 ⟨al, o, c, m, rfl, HPB⟩; clear HPA)
    | (go_at_call 29; refine (Calls.mono HPB.out) ?_; rintro e w3 ⟨st2, al2, o2, c2, m2, rfl, HPC⟩; clear HPB)
    | (go_at_call 29; refine (Calls.mono HPC.out) ?_; rintro e w4 ⟨st3, al3, o3, c3, m3, rfl, HF⟩; clear HPC; have g1 := row_cell (HF.out.2.2.2.get (.tail _ (.tail _ (.head _)))) (j := 0) rfl; have g2 := row_cell (HF.out.2.2.2.get (.tail _ (.tail _ (.head _)))) (j := 1) rfl; have g3 := row_cell (HF.out.2.2.2.get (.tail _ (.head _))) (j := 0) rfl; have g4 := row_cell (HF.out.2.2.2.get (.head _)) (j := 0) rfl; have HCZ : Hid _ := HCL.out gb _ D8 _ _ _ _ _ _ _ _ _ _ _ _ HV.out HF.out.1 HF.out.2.1 HF.out.2.2.2; clear HCL)
    | (go_at_call 32; refine (Calls.mono HCZ.out) ?_; rintro e w6 ⟨rfl, HPD⟩; clear HCZ g1 g2 g3 g4 HF)
    | (go_at_call 29; refine (Calls.mono HPD.out) ?_; rintro e w7 ⟨st7, al7, o7, c7, m7, rfl, HB7, HPE⟩; clear HPD; have q0 := row_cell HB7.out (j := 0) rfl; have q1 := row_cell HB7.out (j := 1) rfl; have q2 := row_cell HB7.out (j := 2) rfl; have q3 := row_cell HB7.out (j := 3) rfl; have z0 := row_frozen HB7.out 0; have z1 := row_frozen HB7.out 1; have z2 := row_frozen HB7.out 2; have z3 := row_frozen HB7.out 3)
    | (go_at_call 29; refine (Calls.mono HPE.out) ?_; rintro e w8 ⟨st8, al8, o8, c8, m8, rfl, HB8, HCE⟩; clear HPE q0 q1 q2 q3 z0 z1 z2 z3; have q0 := row_cell HB8.out (j := 0) rfl; have q1 := row_cell HB8.out (j := 1) rfl; have q2 := row_cell HB8.out (j := 2) rfl; have q3 := row_cell HB8.out (j := 3) rfl; have z0 := row_frozen HB8.out 0; have z1 := row_frozen HB8.out 1; have z2 := row_frozen HB8.out 2; have z3 := row_frozen HB8.out 3)
    | (go_at_call 30; refine (Calls.mono HCE.out) ?_; rintro e w9 ⟨rfl, HSE⟩; clear HCE q0 q1 q2 q3 z0 z1 z2 z3)
    | (go_at_call 27; refine (Calls.mono HSE.out) ?_; rintro e w10 ⟨rfl, HTE⟩; clear HSE)
    | (go_at_call 28; refine (Calls.mono HTE.out) ?_; rintro e w11 ⟨rfl, HKE⟩; clear HTE)
    | (go_at_call 21; refine (Calls.mono HKE.out) ?_; rintro e w12 ⟨rfl, r1, r2, HB12⟩; clear HKE))
   go_ret
   exact ⟨rfl, HB12.out⟩
theorem timed_Zl (HN : Hid NodeC) (HW : Hid TWayC) (w : World) (a b c : Int) {u k : Nat} (hu : u < 12) (hk : k < 12) (HP1 : Hid (∀ w1, Calls Tryz.prog 17 #[.int .i64 a, .int .i64 12] w1 fun e w' => e = .returned (.int .i64 (u : Nat)) /\ w' = w1)) (HP2 : Hid (∀ w1, Calls Tryz.prog 17 #[.int .i64 b, .int .i64 12] w1 fun e w' => e = .returned (.int .i64 (k : Nat)) /\ w' = w1))
  (hs : u = 0) (hl : u <= k) :
  Calls Tryz.prog 11 #[.int .i64 a, .int .i64 b, .int .i64 c] w fun e w' => e = .returned (.bool true) /\ Below w.heap.size w w' := by
 have HOP : Hid (Calls Tryz.prog 14 #[.int .i64 2, .int .i64 6] w fun e w' => ∃ gb, e = .returned (.pointer (some ⟨gb, 0, none⟩)) /\ TSt w gb 1 know0 (newD 2 6) false [] w') := t_open HN HW w 2 6 (by decide) (by decide) (by decide) (by decide)
 have HS1 : Hid (∀ gb w1, TSt w gb 1 know0 (newD 2 6) false [] w1 -> Calls Tryz.prog 27 #[.pointer (some ⟨gb, 0, none⟩), .string ⟨#[100, 111, 99, 58, 122, 35, 114, 101, 97, 100, 101, 114]⟩, .int .i64 100, .int .i64 (u : Nat)] w1 fun e w' => e = .returned (.tuple #[.int .i64 1, .int .i64 0]) /\ Hid (TSt w gb 1 know0 (takeD (newD 2 6) (tkOf know0 q1B 100 u)) false [] w')) := fun gb w1 h => t_submit HN (s := q1B) h (by unfold maxLen; decide) q1_ok (by decide) (by decide) (by omega) (by omega) (tD1_full u).1
 have HS2 : Hid (∀ gb w1, TSt w gb 1 know0 (takeD (newD 2 6) (tkOf know0 q1B 100 u)) false [] w1 -> Calls Tryz.prog 27 #[.pointer (some ⟨gb, 0, none⟩), .string ⟨#[100, 111, 99, 58, 121, 35, 114, 101, 97, 100, 101, 114, 64, 117, 115, 101, 114, 58, 122]⟩, .int .i64 100, .int .i64 100] w1 fun e w' => e = .returned (.tuple #[.int .i64 2, .int .i64 0]) /\ Hid (TSt w gb 1 know0 (takeD (takeD (newD 2 6) (tkOf know0 q1B 100 u)) (tkOf know0 q2B 100 100)) false [] w')) := fun gb w1 h => t_submit HN (s := q2B) h (by unfold maxLen; decide) q2_ok (by decide) (by decide) (by decide) (by decide) (tD1_full u).2.1
 have HS3 : Hid (∀ gb w1, TSt w gb 1 know0 (takeD (takeD (newD 2 6) (tkOf know0 q1B 100 u)) (tkOf know0 q2B 100 100)) false [] w1 -> Calls Tryz.prog 27 #[.pointer (some ⟨gb, 0, none⟩), .string ⟨#[100, 111, 99, 58, 120, 35, 101, 100, 105, 116, 111, 114]⟩, .int .i64 100, .int .i64 100] w1 fun e w' => e = .returned (.tuple #[.int .i64 3, .int .i64 0]) /\ Hid (TSt w gb 1 know0 (tD u) false [] w')) := fun gb w1 h => t_submit HN (s := q3B) h (by unfold maxLen; decide) q3_ok (by decide) (by decide) (by decide) (by decide) (tD1_full u).2.2
 have HCA : Hid (∀ gb w1 D, (D = tD u /\ TSt w gb 1 know0 D false [] w1) -> Calls Tryz.prog 30 #[.pointer (some ⟨gb, 0, none⟩), .int .i64 3] w1 fun e w' => e = .returned (.bool true) /\ Hid (Calls Tryz.prog 30 #[.pointer (some ⟨gb, 0, none⟩), .int .i64 3] w' fun e w'' => e = .returned (.bool false) /\ ∃ D', Hid (TV u 0 1 0 D' /\ TSt w gb 1 know0 D' false [] w''))) := by
  rintro gb w1 D ⟨rfl, ht⟩
  obtain ⟨b1, b2, b3⟩ := TV.begin (u := (u : Int)) (s0 := 0) (i0 := 1) (tD_rs u) rfl (by
    unfold lateR
    show (if (u : Int) <= 0 then (newR (tkOf know0 q1B 100 u)).ended 5 else newR (tkOf know0 q1B 100 u)).st = 0
    split <;> rfl) (fun e => by
    rw [lateR_yes (t := tkOf know0 q1B 100 u) rfl e]; exact ⟨rfl, rfl⟩) (fun e => by
    rw [lateR_not (t := tkOf know0 q1B 100 u) rfl e]; exact ⟨rfl, _, rfl, rfl⟩) rfl ⟨_, rfl, rfl⟩ (by show some _ ≠ none; simp)
  refine (t_cancel ht 3).mono ?_
  rintro e w' ⟨rfl, ht'⟩
  refine ⟨by rw [b1], ?_⟩
  refine (t_cancel ht' 3).mono ?_
  rintro e w'' ⟨rfl, ht''⟩
  exact ⟨by rw [b2], _, b3, ht''⟩
 have HTI : Hid (∀ gb w1 (j : Nat), j < 12 -> (∃ D, TV u 0 1 j D /\ TSt w gb 1 know0 D false [] w1) -> Calls Tryz.prog 31 #[.pointer (some ⟨gb, 0, none⟩)] w1 fun e w' => e = .returned (.tuple #[]) /\ Hid (∃ D, TV u 0 1 (j + 1) D /\ TSt w gb 1 know0 D false [] w')) := by
  rintro gb w1 j hj ⟨D, hv, ht⟩
  refine (t_tick ht).mono ?_
  rintro e w' ⟨he, ht'⟩
  exact ⟨he, _, hv.tick hj, ht'⟩
 have HPO : Hid (∀ gb w1 D, TV u 0 1 k D -> TSt w gb 1 know0 D false [] w1 -> Calls Tryz.prog 29 #[.pointer (some ⟨gb, 0, none⟩), .int .i64 1] w1 _) := fun gb w1 D hv ht => t_polls (want := 5) (by rw [if_pos (show (u : Int) <= (k : Nat) by omega)]) hv ht
 have HCL : Hid (∀ gb w5 D b1 b2 b3 l3 i1 i2 s1 s2 a1 a2 v1 v2, TV u 0 1 k D -> w.heap.size <= b1 -> b1 < b2 -> TSt w gb 1 know0 D false [(b3, l3), (b2, stL i2 s2 a2 v2), (b1, stL i1 s1 a1 v1)] w5 -> Calls Tryz.prog 32 #[.pointer (some ⟨gb, 0, none⟩)] w5 _) := fun gb w5 D b1 b2 b3 l3 i1 i2 s1 s2 a1 a2 v1 v2 hv hb1 h12 ht => t_closes HN HW (wc := 5) (by rw [if_pos (show (u : Int) <= (k : Nat) by omega)]) hv hb1 h12 ht
 have hle : decide ((u : Int) <= (k : Nat)) = true := decide_eq_true (by omega)
 have hgt : decide ((k : Nat) < (u : Int)) = false := decide_eq_false (by omega)
 have hug : decide ((0 : Int) < (u : Nat)) = false := decide_eq_false (by omega)
 have hnz : ¬ 0 < u := by omega
 clear HN HW hs
 unfold q1B kq0 at HCL
 go_enter Tryz.func11, Tryz.ntmps11
 go_wp2_with (first
  | (go_at_call 14; refine HOP.out.mono ?_; rintro e w1 ⟨gb, rfl, ht⟩; have HT1 : Hid (TSt w gb 1 know0 (newD 2 6) false [] w1) := ht; clear ht HOP)
  | (go_at_call 17; refine (HP1.out _).mono ?_; rintro e w2 ⟨rfl, hw2⟩; subst w2; clear HP1)
  | (go_at_call 17; refine (HP2.out _).mono ?_; rintro e w2 ⟨rfl, hw2⟩; subst w2; clear HP2)
  | (go_at_call 27; refine (HS1.out gb _ HT1.out).mono ?_; rintro e w2 ⟨rfl, HT2⟩; clear HS1 HT1)
  | (go_at_call 27; refine (HS2.out gb _ HT2.out).mono ?_; rintro e w3 ⟨rfl, HT3⟩; clear HS2 HT2)
  | (go_at_call 27; refine (HS3.out gb _ HT3.out).mono ?_; rintro e w4 ⟨rfl, HT4⟩; clear HS3 HT3)
  | (go_at_call 30; refine (HCA.out gb _ _ ⟨rfl, HT4.out⟩).mono ?_; rintro e w6 ⟨rfl, HC2⟩; clear HCA)
  | (go_at_call 30; refine (Calls.mono HC2.out) ?_; rintro e w7 ⟨rfl, D7, HD7⟩; clear HC2))
 go_loopw [20] (fun i wr => ∃ j : Nat, j <= k /\ i = .int .i64 j /\ ∃ D, TV u 0 1 j D /\ TSt w gb 1 know0 D false [] wr) (fun i _ => k - (intOf i).toNat)
 case atStart => exact ⟨0, Nat.zero_le _, rfl, D7, HD7.out.1, HD7.out.2⟩
 case round =>
  obtain ⟨j, hj, rfl, hD⟩ := hrel
  have HDJ : Hid (∃ D, TV u 0 1 j D /\ TSt w gb 1 know0 D false [] wr) := hD
  clear hD HD7
  by_cases hlt : j < k
  ·have HTK : Hid (Calls Tryz.prog 31 #[.pointer (some ⟨gb, 0, none⟩)] wr _) := HTI.out gb wr j (by omega) HDJ.out
   clear HDJ HTI HPO HCL
   go_wp2_with (go_at_call 31; refine (Calls.mono HTK.out) ?_; rintro e w8 ⟨rfl, HD8⟩)
   go_roundw
   case rel => exact ⟨j + 1, by omega, by go_num, HD8.out⟩
   case measure => simp [intOf]; omega
  ·obtain rfl : j = k := by omega
   obtain ⟨D8, hv8, ht8⟩ := HDJ.out
   have HV : Hid (TV u 0 1 j D8) := hv8
   have HPA : Hid (Calls Tryz.prog 29 #[.pointer (some ⟨gb, 0, none⟩), .int .i64 1] wr _) := HPO.out gb wr D8 hv8 ht8
   clear HDJ HTI HPO hv8 ht8
   go_wp2_with (first
    | (go_at_call 29; refine (Calls.mono HPA.out) ?_; rintro e w2 ⟨al, o, c, m, rfl, HPB⟩; clear HPA)
    | (go_at_call 29; refine (Calls.mono HPB.out) ?_; rintro e w3 ⟨st2, al2, o2, c2, m2, rfl, HPC⟩; clear HPB)
    | (go_at_call 29; refine (Calls.mono HPC.out) ?_; rintro e w4 ⟨st3, al3, o3, c3, m3, rfl, HF⟩; clear HPC; have g1 := row_cell (HF.out.2.2.2.get (.tail _ (.tail _ (.head _)))) (j := 0) rfl; have g2 := row_cell (HF.out.2.2.2.get (.tail _ (.tail _ (.head _)))) (j := 1) rfl; have g3 := row_cell (HF.out.2.2.2.get (.tail _ (.head _))) (j := 0) rfl; have g4 := row_cell (HF.out.2.2.2.get (.head _)) (j := 0) rfl; have HCZ : Hid _ := HCL.out gb _ D8 _ _ _ _ _ _ _ _ _ _ _ _ HV.out HF.out.1 HF.out.2.1 HF.out.2.2.2; clear HCL)
    | (go_at_call 32; refine (Calls.mono HCZ.out) ?_; rintro e w6 ⟨rfl, HPD⟩; clear HCZ g1 g2 g3 g4 HF)
    | (go_at_call 29; refine (Calls.mono HPD.out) ?_; rintro e w7 ⟨st7, al7, o7, c7, m7, rfl, HB7, HPE⟩; clear HPD; have q0 := row_cell HB7.out (j := 0) rfl; have q1 := row_cell HB7.out (j := 1) rfl; have q2 := row_cell HB7.out (j := 2) rfl; have q3 := row_cell HB7.out (j := 3) rfl; have z0 := row_frozen HB7.out 0; have z1 := row_frozen HB7.out 1; have z2 := row_frozen HB7.out 2; have z3 := row_frozen HB7.out 3)
    | (go_at_call 29; refine (Calls.mono HPE.out) ?_; rintro e w8 ⟨st8, al8, o8, c8, m8, rfl, HB8, HCE⟩; clear HPE q0 q1 q2 q3 z0 z1 z2 z3; have q0 := row_cell HB8.out (j := 0) rfl; have q1 := row_cell HB8.out (j := 1) rfl; have q2 := row_cell HB8.out (j := 2) rfl; have q3 := row_cell HB8.out (j := 3) rfl; have z0 := row_frozen HB8.out 0; have z1 := row_frozen HB8.out 1; have z2 := row_frozen HB8.out 2; have z3 := row_frozen HB8.out 3)
    | (go_at_call 30; refine (Calls.mono HCE.out) ?_; rintro e w9 ⟨rfl, HSE⟩; clear HCE q0 q1 q2 q3 z0 z1 z2 z3)
    | (go_at_call 27; refine (Calls.mono HSE.out) ?_; rintro e w10 ⟨rfl, HTE⟩; clear HSE)
    | (go_at_call 28; refine (Calls.mono HTE.out) ?_; rintro e w11 ⟨rfl, HKE⟩; clear HTE)
    | (go_at_call 21; refine (Calls.mono HKE.out) ?_; rintro e w12 ⟨rfl, r1, r2, HB12⟩; clear HKE))
   go_ret
   exact ⟨rfl, HB12.out⟩
theorem timed_Ol (HN : Hid NodeC) (HW : Hid TWayC) (w : World) (a b c : Int) {u k : Nat} (hu : u < 12) (hk : k < 12) (HP1 : Hid (∀ w1, Calls Tryz.prog 17 #[.int .i64 a, .int .i64 12] w1 fun e w' => e = .returned (.int .i64 (u : Nat)) /\ w' = w1)) (HP2 : Hid (∀ w1, Calls Tryz.prog 17 #[.int .i64 b, .int .i64 12] w1 fun e w' => e = .returned (.int .i64 (k : Nat)) /\ w' = w1))
  (hs : 0 < u) (hc : (c.tmod 2 == 0) = false) (hl : u <= k) :
  Calls Tryz.prog 11 #[.int .i64 a, .int .i64 b, .int .i64 c] w fun e w' => e = .returned (.bool true) /\ Below w.heap.size w w' := by
 have HOP : Hid (Calls Tryz.prog 14 #[.int .i64 2, .int .i64 6] w fun e w' => ∃ gb, e = .returned (.pointer (some ⟨gb, 0, none⟩)) /\ TSt w gb 1 know0 (newD 2 6) false [] w') := t_open HN HW w 2 6 (by decide) (by decide) (by decide) (by decide)
 have HS1 : Hid (∀ gb w1, TSt w gb 1 know0 (newD 2 6) false [] w1 -> Calls Tryz.prog 27 #[.pointer (some ⟨gb, 0, none⟩), .string ⟨#[100, 111, 99, 58, 122, 35, 114, 101, 97, 100, 101, 114]⟩, .int .i64 100, .int .i64 (u : Nat)] w1 fun e w' => e = .returned (.tuple #[.int .i64 1, .int .i64 0]) /\ Hid (TSt w gb 1 know0 (takeD (newD 2 6) (tkOf know0 q1B 100 u)) false [] w')) := fun gb w1 h => t_submit HN (s := q1B) h (by unfold maxLen; decide) q1_ok (by decide) (by decide) (by omega) (by omega) (tD1_full u).1
 have HS2 : Hid (∀ gb w1, TSt w gb 1 know0 (takeD (newD 2 6) (tkOf know0 q1B 100 u)) false [] w1 -> Calls Tryz.prog 27 #[.pointer (some ⟨gb, 0, none⟩), .string ⟨#[100, 111, 99, 58, 121, 35, 114, 101, 97, 100, 101, 114, 64, 117, 115, 101, 114, 58, 122]⟩, .int .i64 100, .int .i64 100] w1 fun e w' => e = .returned (.tuple #[.int .i64 2, .int .i64 0]) /\ Hid (TSt w gb 1 know0 (takeD (takeD (newD 2 6) (tkOf know0 q1B 100 u)) (tkOf know0 q2B 100 100)) false [] w')) := fun gb w1 h => t_submit HN (s := q2B) h (by unfold maxLen; decide) q2_ok (by decide) (by decide) (by decide) (by decide) (tD1_full u).2.1
 have HS3 : Hid (∀ gb w1, TSt w gb 1 know0 (takeD (takeD (newD 2 6) (tkOf know0 q1B 100 u)) (tkOf know0 q2B 100 100)) false [] w1 -> Calls Tryz.prog 27 #[.pointer (some ⟨gb, 0, none⟩), .string ⟨#[100, 111, 99, 58, 120, 35, 101, 100, 105, 116, 111, 114]⟩, .int .i64 100, .int .i64 100] w1 fun e w' => e = .returned (.tuple #[.int .i64 3, .int .i64 0]) /\ Hid (TSt w gb 1 know0 (tD u) false [] w')) := fun gb w1 h => t_submit HN (s := q3B) h (by unfold maxLen; decide) q3_ok (by decide) (by decide) (by decide) (by decide) (tD1_full u).2.2
 have HCA : Hid (∀ gb w1 D, (D = tD u /\ TSt w gb 1 know0 D false [] w1) -> Calls Tryz.prog 30 #[.pointer (some ⟨gb, 0, none⟩), .int .i64 3] w1 fun e w' => e = .returned (.bool true) /\ Hid (Calls Tryz.prog 30 #[.pointer (some ⟨gb, 0, none⟩), .int .i64 3] w' fun e w'' => e = .returned (.bool false) /\ ∃ D', Hid (TV u 0 1 0 D' /\ TSt w gb 1 know0 D' false [] w''))) := by
  rintro gb w1 D ⟨rfl, ht⟩
  obtain ⟨b1, b2, b3⟩ := TV.begin (u := (u : Int)) (s0 := 0) (i0 := 1) (tD_rs u) rfl (by
    unfold lateR
    show (if (u : Int) <= 0 then (newR (tkOf know0 q1B 100 u)).ended 5 else newR (tkOf know0 q1B 100 u)).st = 0
    split <;> rfl) (fun e => by
    rw [lateR_yes (t := tkOf know0 q1B 100 u) rfl e]; exact ⟨rfl, rfl⟩) (fun e => by
    rw [lateR_not (t := tkOf know0 q1B 100 u) rfl e]; exact ⟨rfl, _, rfl, rfl⟩) rfl ⟨_, rfl, rfl⟩ (by show some _ ≠ none; simp)
  refine (t_cancel ht 3).mono ?_
  rintro e w' ⟨rfl, ht'⟩
  refine ⟨by rw [b1], ?_⟩
  refine (t_cancel ht' 3).mono ?_
  rintro e w'' ⟨rfl, ht''⟩
  exact ⟨by rw [b2], _, b3, ht''⟩
 have HTI : Hid (∀ gb w1 (j : Nat), j < 12 -> (∃ D, TV u 0 1 j D /\ TSt w gb 1 know0 D false [] w1) -> Calls Tryz.prog 31 #[.pointer (some ⟨gb, 0, none⟩)] w1 fun e w' => e = .returned (.tuple #[]) /\ Hid (∃ D, TV u 0 1 (j + 1) D /\ TSt w gb 1 know0 D false [] w')) := by
  rintro gb w1 j hj ⟨D, hv, ht⟩
  refine (t_tick ht).mono ?_
  rintro e w' ⟨he, ht'⟩
  exact ⟨he, _, hv.tick hj, ht'⟩
 have HPO : Hid (∀ gb w1 D, TV u 0 1 k D -> TSt w gb 1 know0 D false [] w1 -> Calls Tryz.prog 29 #[.pointer (some ⟨gb, 0, none⟩), .int .i64 1] w1 _) := fun gb w1 D hv ht => t_polls (want := 5) (by rw [if_pos (show (u : Int) <= (k : Nat) by omega)]) hv ht
 have HCL : Hid (∀ gb w5 D b1 b2 b3 l3 i1 i2 s1 s2 a1 a2 v1 v2, TV u 0 1 k D -> w.heap.size <= b1 -> b1 < b2 -> TSt w gb 1 know0 D false [(b3, l3), (b2, stL i2 s2 a2 v2), (b1, stL i1 s1 a1 v1)] w5 -> Calls Tryz.prog 32 #[.pointer (some ⟨gb, 0, none⟩)] w5 _) := fun gb w5 D b1 b2 b3 l3 i1 i2 s1 s2 a1 a2 v1 v2 hv hb1 h12 ht => t_closes HN HW (wc := 5) (by rw [if_pos (show (u : Int) <= (k : Nat) by omega)]) hv hb1 h12 ht
 have hle : decide ((u : Int) <= (k : Nat)) = true := decide_eq_true (by omega)
 have hgt : decide ((k : Nat) < (u : Int)) = false := decide_eq_false (by omega)
 have hug : decide ((0 : Int) < (u : Nat)) = true := decide_eq_true (by omega)
 clear HN HW
 unfold q1B kq0 at HCL
 go_enter Tryz.func11, Tryz.ntmps11
 go_wp2_with (first
  | (go_at_call 14; refine HOP.out.mono ?_; rintro e w1 ⟨gb, rfl, ht⟩; have HT1 : Hid (TSt w gb 1 know0 (newD 2 6) false [] w1) := ht; clear ht HOP)
  | (go_at_call 17; refine (HP1.out _).mono ?_; rintro e w2 ⟨rfl, hw2⟩; subst w2; clear HP1)
  | (go_at_call 17; refine (HP2.out _).mono ?_; rintro e w2 ⟨rfl, hw2⟩; subst w2; clear HP2)
  | (go_at_call 27; refine (HS1.out gb _ HT1.out).mono ?_; rintro e w2 ⟨rfl, HT2⟩; clear HS1 HT1)
  | (go_at_call 27; refine (HS2.out gb _ HT2.out).mono ?_; rintro e w3 ⟨rfl, HT3⟩; clear HS2 HT2)
  | (go_at_call 27; refine (HS3.out gb _ HT3.out).mono ?_; rintro e w4 ⟨rfl, HT4⟩; clear HS3 HT3)
  | (go_at_call 30; refine (HCA.out gb _ _ ⟨rfl, HT4.out⟩).mono ?_; rintro e w6 ⟨rfl, HC2⟩; clear HCA)
  | (go_at_call 30; refine (Calls.mono HC2.out) ?_; rintro e w7 ⟨rfl, D7, HD7⟩; clear HC2))
 go_loopw [20] (fun i wr => ∃ j : Nat, j <= k /\ i = .int .i64 j /\ ∃ D, TV u 0 1 j D /\ TSt w gb 1 know0 D false [] wr) (fun i _ => k - (intOf i).toNat)
 case atStart => exact ⟨0, Nat.zero_le _, rfl, D7, HD7.out.1, HD7.out.2⟩
 case round =>
  obtain ⟨j, hj, rfl, hD⟩ := hrel
  have HDJ : Hid (∃ D, TV u 0 1 j D /\ TSt w gb 1 know0 D false [] wr) := hD
  clear hD HD7
  by_cases hlt : j < k
  ·have HTK : Hid (Calls Tryz.prog 31 #[.pointer (some ⟨gb, 0, none⟩)] wr _) := HTI.out gb wr j (by omega) HDJ.out
   clear HDJ HTI HPO HCL
   go_wp2_with (go_at_call 31; refine (Calls.mono HTK.out) ?_; rintro e w8 ⟨rfl, HD8⟩)
   go_roundw
   case rel => exact ⟨j + 1, by omega, by go_num, HD8.out⟩
   case measure => simp [intOf]; omega
  ·obtain rfl : j = k := by omega
   obtain ⟨D8, hv8, ht8⟩ := HDJ.out
   have HV : Hid (TV u 0 1 j D8) := hv8
   have HPA : Hid (Calls Tryz.prog 29 #[.pointer (some ⟨gb, 0, none⟩), .int .i64 1] wr _) := HPO.out gb wr D8 hv8 ht8
   clear HDJ HTI HPO hv8 ht8
   go_wp2_with (first
    | (go_at_call 29; refine (Calls.mono HPA.out) ?_; rintro e w2 ⟨al, o, c, m, rfl, HPB⟩; clear HPA)
    | (go_at_call 29; refine (Calls.mono HPB.out) ?_; rintro e w3 ⟨st2, al2, o2, c2, m2, rfl, HPC⟩; clear HPB)
    | (go_at_call 29; refine (Calls.mono HPC.out) ?_; rintro e w4 ⟨st3, al3, o3, c3, m3, rfl, HF⟩; clear HPC; have g1 := row_cell (HF.out.2.2.2.get (.tail _ (.tail _ (.head _)))) (j := 0) rfl; have g2 := row_cell (HF.out.2.2.2.get (.tail _ (.tail _ (.head _)))) (j := 1) rfl; have g3 := row_cell (HF.out.2.2.2.get (.tail _ (.head _))) (j := 0) rfl; have g4 := row_cell (HF.out.2.2.2.get (.head _)) (j := 0) rfl; have HCZ : Hid _ := HCL.out gb _ D8 _ _ _ _ _ _ _ _ _ _ _ _ HV.out HF.out.1 HF.out.2.1 HF.out.2.2.2; clear HCL)
    | (go_at_call 32; refine (Calls.mono HCZ.out) ?_; rintro e w6 ⟨rfl, HPD⟩; clear HCZ g1 g2 g3 g4 HF)
    | (go_at_call 29; refine (Calls.mono HPD.out) ?_; rintro e w7 ⟨st7, al7, o7, c7, m7, rfl, HB7, HPE⟩; clear HPD; have q0 := row_cell HB7.out (j := 0) rfl; have q1 := row_cell HB7.out (j := 1) rfl; have q2 := row_cell HB7.out (j := 2) rfl; have q3 := row_cell HB7.out (j := 3) rfl; have z0 := row_frozen HB7.out 0; have z1 := row_frozen HB7.out 1; have z2 := row_frozen HB7.out 2; have z3 := row_frozen HB7.out 3)
    | (go_at_call 29; refine (Calls.mono HPE.out) ?_; rintro e w8 ⟨st8, al8, o8, c8, m8, rfl, HB8, HCE⟩; clear HPE q0 q1 q2 q3 z0 z1 z2 z3; have q0 := row_cell HB8.out (j := 0) rfl; have q1 := row_cell HB8.out (j := 1) rfl; have q2 := row_cell HB8.out (j := 2) rfl; have q3 := row_cell HB8.out (j := 3) rfl; have z0 := row_frozen HB8.out 0; have z1 := row_frozen HB8.out 1; have z2 := row_frozen HB8.out 2; have z3 := row_frozen HB8.out 3)
    | (go_at_call 30; refine (Calls.mono HCE.out) ?_; rintro e w9 ⟨rfl, HSE⟩; clear HCE q0 q1 q2 q3 z0 z1 z2 z3)
    | (go_at_call 27; refine (Calls.mono HSE.out) ?_; rintro e w10 ⟨rfl, HTE⟩; clear HSE)
    | (go_at_call 28; refine (Calls.mono HTE.out) ?_; rintro e w11 ⟨rfl, HKE⟩; clear HTE)
    | (go_at_call 21; refine (Calls.mono HKE.out) ?_; rintro e w12 ⟨rfl, r1, r2, HB12⟩; clear HKE))
   go_ret
   exact ⟨rfl, HB12.out⟩
theorem timed_Oo (HN : Hid NodeC) (HW : Hid TWayC) (w : World) (a b c : Int) {u k : Nat} (hu : u < 12) (hk : k < 12) (HP1 : Hid (∀ w1, Calls Tryz.prog 17 #[.int .i64 a, .int .i64 12] w1 fun e w' => e = .returned (.int .i64 (u : Nat)) /\ w' = w1)) (HP2 : Hid (∀ w1, Calls Tryz.prog 17 #[.int .i64 b, .int .i64 12] w1 fun e w' => e = .returned (.int .i64 (k : Nat)) /\ w' = w1))
  (hs : 0 < u) (hc : (c.tmod 2 == 0) = false) (hl : ¬ u <= k) :
  Calls Tryz.prog 11 #[.int .i64 a, .int .i64 b, .int .i64 c] w fun e w' => e = .returned (.bool true) /\ Below w.heap.size w w' := by
 have HOP : Hid (Calls Tryz.prog 14 #[.int .i64 2, .int .i64 6] w fun e w' => ∃ gb, e = .returned (.pointer (some ⟨gb, 0, none⟩)) /\ TSt w gb 1 know0 (newD 2 6) false [] w') := t_open HN HW w 2 6 (by decide) (by decide) (by decide) (by decide)
 have HS1 : Hid (∀ gb w1, TSt w gb 1 know0 (newD 2 6) false [] w1 -> Calls Tryz.prog 27 #[.pointer (some ⟨gb, 0, none⟩), .string ⟨#[100, 111, 99, 58, 122, 35, 114, 101, 97, 100, 101, 114]⟩, .int .i64 100, .int .i64 (u : Nat)] w1 fun e w' => e = .returned (.tuple #[.int .i64 1, .int .i64 0]) /\ Hid (TSt w gb 1 know0 (takeD (newD 2 6) (tkOf know0 q1B 100 u)) false [] w')) := fun gb w1 h => t_submit HN (s := q1B) h (by unfold maxLen; decide) q1_ok (by decide) (by decide) (by omega) (by omega) (tD1_full u).1
 have HS2 : Hid (∀ gb w1, TSt w gb 1 know0 (takeD (newD 2 6) (tkOf know0 q1B 100 u)) false [] w1 -> Calls Tryz.prog 27 #[.pointer (some ⟨gb, 0, none⟩), .string ⟨#[100, 111, 99, 58, 121, 35, 114, 101, 97, 100, 101, 114, 64, 117, 115, 101, 114, 58, 122]⟩, .int .i64 100, .int .i64 100] w1 fun e w' => e = .returned (.tuple #[.int .i64 2, .int .i64 0]) /\ Hid (TSt w gb 1 know0 (takeD (takeD (newD 2 6) (tkOf know0 q1B 100 u)) (tkOf know0 q2B 100 100)) false [] w')) := fun gb w1 h => t_submit HN (s := q2B) h (by unfold maxLen; decide) q2_ok (by decide) (by decide) (by decide) (by decide) (tD1_full u).2.1
 have HS3 : Hid (∀ gb w1, TSt w gb 1 know0 (takeD (takeD (newD 2 6) (tkOf know0 q1B 100 u)) (tkOf know0 q2B 100 100)) false [] w1 -> Calls Tryz.prog 27 #[.pointer (some ⟨gb, 0, none⟩), .string ⟨#[100, 111, 99, 58, 120, 35, 101, 100, 105, 116, 111, 114]⟩, .int .i64 100, .int .i64 100] w1 fun e w' => e = .returned (.tuple #[.int .i64 3, .int .i64 0]) /\ Hid (TSt w gb 1 know0 (tD u) false [] w')) := fun gb w1 h => t_submit HN (s := q3B) h (by unfold maxLen; decide) q3_ok (by decide) (by decide) (by decide) (by decide) (tD1_full u).2.2
 have HCA : Hid (∀ gb w1 D, (D = tD u /\ TSt w gb 1 know0 D false [] w1) -> Calls Tryz.prog 30 #[.pointer (some ⟨gb, 0, none⟩), .int .i64 3] w1 fun e w' => e = .returned (.bool true) /\ Hid (Calls Tryz.prog 30 #[.pointer (some ⟨gb, 0, none⟩), .int .i64 3] w' fun e w'' => e = .returned (.bool false) /\ ∃ D', Hid (TV u 0 1 0 D' /\ TSt w gb 1 know0 D' false [] w''))) := by
  rintro gb w1 D ⟨rfl, ht⟩
  obtain ⟨b1, b2, b3⟩ := TV.begin (u := (u : Int)) (s0 := 0) (i0 := 1) (tD_rs u) rfl (by
    unfold lateR
    show (if (u : Int) <= 0 then (newR (tkOf know0 q1B 100 u)).ended 5 else newR (tkOf know0 q1B 100 u)).st = 0
    split <;> rfl) (fun e => by
    rw [lateR_yes (t := tkOf know0 q1B 100 u) rfl e]; exact ⟨rfl, rfl⟩) (fun e => by
    rw [lateR_not (t := tkOf know0 q1B 100 u) rfl e]; exact ⟨rfl, _, rfl, rfl⟩) rfl ⟨_, rfl, rfl⟩ (by show some _ ≠ none; simp)
  refine (t_cancel ht 3).mono ?_
  rintro e w' ⟨rfl, ht'⟩
  refine ⟨by rw [b1], ?_⟩
  refine (t_cancel ht' 3).mono ?_
  rintro e w'' ⟨rfl, ht''⟩
  exact ⟨by rw [b2], _, b3, ht''⟩
 have HTI : Hid (∀ gb w1 (j : Nat), j < 12 -> (∃ D, TV u 0 1 j D /\ TSt w gb 1 know0 D false [] w1) -> Calls Tryz.prog 31 #[.pointer (some ⟨gb, 0, none⟩)] w1 fun e w' => e = .returned (.tuple #[]) /\ Hid (∃ D, TV u 0 1 (j + 1) D /\ TSt w gb 1 know0 D false [] w')) := by
  rintro gb w1 j hj ⟨D, hv, ht⟩
  refine (t_tick ht).mono ?_
  rintro e w' ⟨he, ht'⟩
  exact ⟨he, _, hv.tick hj, ht'⟩
 have HPO : Hid (∀ gb w1 D, TV u 0 1 k D -> TSt w gb 1 know0 D false [] w1 -> Calls Tryz.prog 29 #[.pointer (some ⟨gb, 0, none⟩), .int .i64 1] w1 _) := fun gb w1 D hv ht => t_polls (want := 1) (by rw [if_neg (show ¬ (u : Int) <= (k : Nat) by omega)]) hv ht
 have HCL : Hid (∀ gb w5 D b1 b2 b3 l3 i1 i2 s1 s2 a1 a2 v1 v2, TV u 0 1 k D -> w.heap.size <= b1 -> b1 < b2 -> TSt w gb 1 know0 D false [(b3, l3), (b2, stL i2 s2 a2 v2), (b1, stL i1 s1 a1 v1)] w5 -> Calls Tryz.prog 32 #[.pointer (some ⟨gb, 0, none⟩)] w5 _) := fun gb w5 D b1 b2 b3 l3 i1 i2 s1 s2 a1 a2 v1 v2 hv hb1 h12 ht => t_closes HN HW (wc := 6) (by rw [if_neg (show ¬ (u : Int) <= (k : Nat) by omega)]) hv hb1 h12 ht
 have hle : decide ((u : Int) <= (k : Nat)) = false := decide_eq_false (by omega)
 have hgt : decide ((k : Nat) < (u : Int)) = true := decide_eq_true (by omega)
 have hug : decide ((0 : Int) < (u : Nat)) = true := decide_eq_true (by omega)
 clear HN HW
 unfold q1B kq0 at HCL
 go_enter Tryz.func11, Tryz.ntmps11
 go_wp2_with (first
  | (go_at_call 14; refine HOP.out.mono ?_; rintro e w1 ⟨gb, rfl, ht⟩; have HT1 : Hid (TSt w gb 1 know0 (newD 2 6) false [] w1) := ht; clear ht HOP)
  | (go_at_call 17; refine (HP1.out _).mono ?_; rintro e w2 ⟨rfl, hw2⟩; subst w2; clear HP1)
  | (go_at_call 17; refine (HP2.out _).mono ?_; rintro e w2 ⟨rfl, hw2⟩; subst w2; clear HP2)
  | (go_at_call 27; refine (HS1.out gb _ HT1.out).mono ?_; rintro e w2 ⟨rfl, HT2⟩; clear HS1 HT1)
  | (go_at_call 27; refine (HS2.out gb _ HT2.out).mono ?_; rintro e w3 ⟨rfl, HT3⟩; clear HS2 HT2)
  | (go_at_call 27; refine (HS3.out gb _ HT3.out).mono ?_; rintro e w4 ⟨rfl, HT4⟩; clear HS3 HT3)
  | (go_at_call 30; refine (HCA.out gb _ _ ⟨rfl, HT4.out⟩).mono ?_; rintro e w6 ⟨rfl, HC2⟩; clear HCA)
  | (go_at_call 30; refine (Calls.mono HC2.out) ?_; rintro e w7 ⟨rfl, D7, HD7⟩; clear HC2))
 go_loopw [20] (fun i wr => ∃ j : Nat, j <= k /\ i = .int .i64 j /\ ∃ D, TV u 0 1 j D /\ TSt w gb 1 know0 D false [] wr) (fun i _ => k - (intOf i).toNat)
 case atStart => exact ⟨0, Nat.zero_le _, rfl, D7, HD7.out.1, HD7.out.2⟩
 case round =>
  obtain ⟨j, hj, rfl, hD⟩ := hrel
  have HDJ : Hid (∃ D, TV u 0 1 j D /\ TSt w gb 1 know0 D false [] wr) := hD
  clear hD HD7
  by_cases hlt : j < k
  ·have HTK : Hid (Calls Tryz.prog 31 #[.pointer (some ⟨gb, 0, none⟩)] wr _) := HTI.out gb wr j (by omega) HDJ.out
   clear HDJ HTI HPO HCL
   go_wp2_with (go_at_call 31; refine (Calls.mono HTK.out) ?_; rintro e w8 ⟨rfl, HD8⟩)
   go_roundw
   case rel => exact ⟨j + 1, by omega, by go_num, HD8.out⟩
   case measure => simp [intOf]; omega
  ·obtain rfl : j = k := by omega
   obtain ⟨D8, hv8, ht8⟩ := HDJ.out
   have HV : Hid (TV u 0 1 j D8) := hv8
   have HPA : Hid (Calls Tryz.prog 29 #[.pointer (some ⟨gb, 0, none⟩), .int .i64 1] wr _) := HPO.out gb wr D8 hv8 ht8
   clear HDJ HTI HPO hv8 ht8
   go_wp2_with (first
    | (go_at_call 29; refine (Calls.mono HPA.out) ?_; rintro e w2 ⟨al, o, c, m, rfl, HPB⟩; clear HPA)
    | (go_at_call 29; refine (Calls.mono HPB.out) ?_; rintro e w3 ⟨st2, al2, o2, c2, m2, rfl, HPC⟩; clear HPB)
    | (go_at_call 29; refine (Calls.mono HPC.out) ?_; rintro e w4 ⟨st3, al3, o3, c3, m3, rfl, HF⟩; clear HPC; have g1 := row_cell (HF.out.2.2.2.get (.tail _ (.tail _ (.head _)))) (j := 0) rfl; have g2 := row_cell (HF.out.2.2.2.get (.tail _ (.tail _ (.head _)))) (j := 1) rfl; have g3 := row_cell (HF.out.2.2.2.get (.tail _ (.head _))) (j := 0) rfl; have g4 := row_cell (HF.out.2.2.2.get (.head _)) (j := 0) rfl; have HCZ : Hid _ := HCL.out gb _ D8 _ _ _ _ _ _ _ _ _ _ _ _ HV.out HF.out.1 HF.out.2.1 HF.out.2.2.2; clear HCL)
    | (go_at_call 32; refine (Calls.mono HCZ.out) ?_; rintro e w6 ⟨rfl, HPD⟩; clear HCZ g1 g2 g3 g4 HF)
    | (go_at_call 29; refine (Calls.mono HPD.out) ?_; rintro e w7 ⟨st7, al7, o7, c7, m7, rfl, HB7, HPE⟩; clear HPD; have q0 := row_cell HB7.out (j := 0) rfl; have q1 := row_cell HB7.out (j := 1) rfl; have q2 := row_cell HB7.out (j := 2) rfl; have q3 := row_cell HB7.out (j := 3) rfl; have z0 := row_frozen HB7.out 0; have z1 := row_frozen HB7.out 1; have z2 := row_frozen HB7.out 2; have z3 := row_frozen HB7.out 3)
    | (go_at_call 29; refine (Calls.mono HPE.out) ?_; rintro e w8 ⟨st8, al8, o8, c8, m8, rfl, HB8, HCE⟩; clear HPE q0 q1 q2 q3 z0 z1 z2 z3; have q0 := row_cell HB8.out (j := 0) rfl; have q1 := row_cell HB8.out (j := 1) rfl; have q2 := row_cell HB8.out (j := 2) rfl; have q3 := row_cell HB8.out (j := 3) rfl; have z0 := row_frozen HB8.out 0; have z1 := row_frozen HB8.out 1; have z2 := row_frozen HB8.out 2; have z3 := row_frozen HB8.out 3)
    | (go_at_call 30; refine (Calls.mono HCE.out) ?_; rintro e w9 ⟨rfl, HSE⟩; clear HCE q0 q1 q2 q3 z0 z1 z2 z3)
    | (go_at_call 27; refine (Calls.mono HSE.out) ?_; rintro e w10 ⟨rfl, HTE⟩; clear HSE)
    | (go_at_call 28; refine (Calls.mono HTE.out) ?_; rintro e w11 ⟨rfl, HKE⟩; clear HTE)
    | (go_at_call 21; refine (Calls.mono HKE.out) ?_; rintro e w12 ⟨rfl, r1, r2, HB12⟩; clear HKE))
   go_ret
   exact ⟨rfl, HB12.out⟩
theorem timed_any (HN : Hid NodeC) (HW : Hid TWayC) (w : World) (a b c : Int) (ha1 : -9223372036854775808 <= a) (ha2 : a <= 9223372036854775807) (hb1 : -9223372036854775808 <= b) (hb2 : b <= 9223372036854775807) :
  Calls Tryz.prog 11 #[.int .i64 a, .int .i64 b, .int .i64 c] w fun e w' => e = .returned (.bool true) /\ Below w.heap.size w w' := by
 obtain ⟨u, hu, h1⟩ := pick12 a ha1 ha2
 obtain ⟨k, hk, h2⟩ := pick12 b hb1 hb2
 by_cases hl : u <= k
 ·by_cases hs : 0 < u
  ·cases hc : (c.tmod 2 == 0)
   ·exact timed_Ol HN HW w a b c hu hk h1 h2 hs hc hl
   ·exact timed_Sl HN HW w a b c hu hk h1 h2 hs hc hl
  ·exact timed_Zl HN HW w a b c hu hk h1 h2 (by omega) hl
 ·have hs : 0 < u := by omega
  cases hc : (c.tmod 2 == 0)
  ·exact timed_Oo HN HW w a b c hu hk h1 h2 hs hc hl
  ·exact timed_So HN HW w a b c hu hk h1 h2 hs hc hl
end Go.Proofs.YtalmoiogbdahcaaGreat
