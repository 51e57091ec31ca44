import Derived.Test.YtalmoiogbdahcaaGreatYGramC
import Derived.Test.YtalmoiogbdahcaaGreatYWrdL
namespace Go.Proofs.YtalmoiogbdahcaaGreat
set_option maxRecDepth 100000
set_option maxHeartbeats 8000000
open Go.RowKit
theorem pre_iff (s m : ByteArray) : preB s m = true ↔ ∃ r, s.data.toList = m.data.toList ++ r := by
 unfold preB
 rw [Lib.toList_data, Lib.toList_data, extract_front, Bool.and_eq_true, decide_eq_true_eq, beq_iff_eq, size_len s, size_len m]
 constructor
 ·rintro ⟨-, h⟩
  refine ⟨s.data.toList.drop m.data.toList.length, ?_⟩
  have e := List.take_append_drop m.data.toList.length s.data.toList
  rw [h] at e
  exact e.symm
 ·rintro ⟨r, h⟩
  rw [h]; simp
theorem sees_gen (q : Rd) (m : ByteArray) (r : List UInt8) (h : q.rest.data.toList = m.data.toList ++ r) : preB q.rest m = true /\ q.sees m = { q with rest := mk r } := by
 have hp := (pre_iff q.rest m).2 ⟨r, h⟩
 refine ⟨hp, ?_⟩
 unfold Rd.sees; rw [hp]
 have e : q.rest.extract m.size q.rest.size = mk r := eq_mk (by rw [extract_list, h, size_len, List.drop_left])
 show { q with rest := q.rest.extract m.size q.rest.size } = _
 rw [e]
theorem pre_false (s m : ByteArray) (h : ¬ ∃ r, s.data.toList = m.data.toList ++ r) : preB s m = false := by
 cases hp : preB s m
 ·rfl
 ·exact absurd ((pre_iff s m).1 hp) h
theorem isThis_iff (a : List UInt8) : isThis (mk a) = true ↔ a = thisL := by
 unfold isThis; rw [Lib.toList_data, mk_list, beq_iff_eq]; rfl
theorem relation_f (q : Rd) (h : q.failed = true) : q.relation.failed = true := by
 unfold Rd.relation; split
 ·rfl
 ·exact name_f q h
theorem plainG_f (q : Rd) (h : q.failed = true) : (plainG q).2.failed = true := by
 unfold plainG; split
 ·exact name_f q h
 ·split
  ·exact relation_f _ (sees_f _ _ (name_f q h))
  ·exact name_f q h
theorem partsG_f {one : Rd -> WayT × Rd} (ho : ∀ q, q.failed = true -> (one q).2.failed = true) (m : ByteArray) : ∀ n acc q, q.failed = true -> (partsG one m n acc q).2.failed = true := by
 intro n
 induction n with
 | zero => intro acc q h; exact h
 | succ n ih => intro acc q h; rw [partsG]; split
                ·exact ih _ _ (ho _ (sees_f _ _ h))
                ·exact h
theorem wayG_f {one : Rd -> WayT × Rd} (ho : ∀ q, q.failed = true -> (one q).2.failed = true) (q : Rd) (h : q.failed = true) : (wayG one q).2.failed = true := partsG_f ho _ _ _ _ (ho q h)
theorem oneF_f : ∀ d q, q.failed = true -> (oneF d q).2.failed = true := by
 intro d
 induction d with
 | zero => intro q h; rw [oneF]; split
           ·rfl
           ·exact plainG_f q h
 | succ d ih => intro q h; rw [oneF]; split
                ·exact must_f _ _ (wayG_f ih _ (sees_f _ _ h))
                ·exact plainG_f q h
def goodE (b : List UInt8) : Prop := b = [] \/ ∃ c r, b = c :: r /\ (c = 41 \/ c = 124 \/ c = 38)
theorem good_ends {b : List UInt8} (h : goodE b) : ends b := by
 rcases h with rfl | ⟨c, r, rfl, h⟩
 ·exact Or.inl rfl
 ·exact Or.inr ⟨c, r, rfl, by rcases h with rfl | rfl | rfl <;> decide⟩
theorem good_ne {b : List UInt8} (h : goodE b) {c : UInt8} (hc : c ≠ 41 /\ c ≠ 124 /\ c ≠ 38) (r : List UInt8) : b ≠ c :: r := by
 rintro rfl
 rcases h with h | ⟨c', r', h, h2⟩
 ·cases h
 ·injection h with h _
  subst h
  rcases h2 with h2 | h2 | h2
  ·exact hc.1 h2
  ·exact hc.2.1 h2
  ·exact hc.2.2 h2
theorem not_open {l b : List UInt8} {q : Rd} (h : q.rest.data.toList = l ++ b) (hl : ∃ c r, l = c :: r /\ c ≠ 40) : preB q.rest opB = false := by
 obtain ⟨c, r, rfl, hc⟩ := hl
 refine pre_false _ _ ?_
 rintro ⟨x, hx⟩
 rw [h] at hx
 simp [opB] at hx
 exact hc hx.1
theorem name_head {a : List UInt8} (h : nameL a = true) : ∃ c r, a = c :: r /\ c ≠ 40 := by
 obtain ⟨c, r, rfl⟩ := head_of (nameL_ne h)
 exact ⟨c, r, rfl, (name_quiet h c (by simp)).1⟩
theorem plain_of {d : Nat} {q : Rd} (h : preB q.rest opB = false) : oneF d q = plainG q := by
 cases d <;> rw [oneF, h] <;> rfl
def OneSt (d : Nat) (l : List UInt8) (ts : List WayT) : Prop := ∀ q b, q.rest.data.toList = l ++ b -> goodE b -> ∃ t, ts = [t] /\ oneF d q = (t, { q with rest := mk b })
def WaySt (d : Nat) (op : UInt8) (l : List UInt8) (ts : List WayT) : Prop := ∀ q b, q.rest.data.toList = l ++ b -> goodE b -> ∃ t0 r0, oneF d q = (t0, { q with rest := mk r0 }) /\ ((ts = [t0] /\ r0 = b) \/ (2 <= ts.length /\ ∃ r', r0 = op :: r')) /\
 ∀ n, r0.length <= n -> ∃ m, b.length <= m /\ partsG (oneF d) { data := #[op] } n [t0] { q with rest := mk r0 } = partsG (oneF d) { data := #[op] } m ts { q with rest := mk b }
theorem Gr.opok {d op l ts} (h : Gr true d op l ts) (hl : 2 <= ts.length) : op = 124 \/ op = 38 := by
 cases h with
 | one _ _ _ _ h1 => have := h1.len.2 rfl; omega
 | more _ _ _ _ ts t h1 h2 h3 => exact h1
theorem mk_size (l : List UInt8) : (mk l).size = l.length := by rw [size_len, mk_list]
theorem way_whole {d op l ts} (h : Gr true d op l ts) (hs : WaySt d op l ts) (q : Rd) (b : List UInt8) (hq : q.rest.data.toList = l ++ b) (hb : b = [] \/ ∃ r, b = 41 :: r) :
  wayG (oneF d) q = (joinT op ts, { q with rest := mk b }) := by
 have hg : goodE b := by
  rcases hb with rfl | ⟨r, rfl⟩
  ·exact Or.inl rfl
  ·exact Or.inr ⟨41, r, rfl, Or.inl rfl⟩
 have hno : ∀ c : UInt8, (c = 124 \/ c = 38) -> preB (mk b) { data := #[c] } = false := fun c hc => by
  refine pre_false _ _ ?_
  rintro ⟨x, hx⟩
  rw [mk_list] at hx
  rcases hb with rfl | ⟨r, rfl⟩
  ·simp at hx
  ·simp at hx; rcases hc with rfl | rfl <;> exact absurd hx.1 (by decide)
 obtain ⟨t0, r0, h1, h2, h3⟩ := hs q b hq hg
 rcases h2 with ⟨rfl, rfl⟩ | ⟨hl, r', rfl⟩
 ·have hA : preB (mk r0) ampB = false := hno 38 (Or.inr rfl)
  have hB : preB (mk r0) barB = false := hno 124 (Or.inl rfl)
  have hp : ∀ n acc, partsG (oneF d) barB n acc { q with rest := mk r0 } = (acc, { q with rest := mk r0 }) := fun n acc => by
   cases n with
   | zero => rfl
   | succ n => rw [partsG, if_neg (by show ¬ preB (mk r0) barB = true; rw [hB]; decide)]
  unfold wayG wayP markOf isOf
  rw [h1]
  dsimp only
  rw [hA]
  simp only [Bool.false_eq_true, if_false, hp]
  rfl
 ·obtain ⟨m, hm, hp⟩ := h3 (mk (op :: r')).size (by rw [mk_size]; exact Nat.le_refl _)
  have hop := h.opok hl
  have hstop : partsG (oneF d) { data := #[op] } m ts { q with rest := mk b } = (ts, { q with rest := mk b }) := by
   cases m with
   | zero => rfl
   | succ m => rw [partsG, if_neg (by show ¬ preB (mk b) _ = true; rw [hno op hop]; decide)]
  have hj : ∀ is : Int, joinW is ts = .mk is noneB noneB ts := fun is => by
   match ts, hl with
   | _ :: _ :: _, _ => rfl
  have hjt : joinT op ts = .mk (if op = 38 then 4 else 3) noneB noneB ts := by
   match ts, hl with
   | _ :: _ :: _, _ => rfl
  unfold wayG wayP markOf isOf
  rw [h1]
  dsimp only
  rw [hjt]
  rcases hop with rfl | rfl
  ·have hA : preB (mk (124 :: r')) ampB = false := by
    refine pre_false _ _ ?_
    rintro ⟨x, hx⟩; simp [ampB, mk_list] at hx
   rw [hA]
   simp only [Bool.false_eq_true, if_false]
   have hp' : partsG (oneF d) barB _ _ _ = _ := hp.trans hstop
   rw [hp']
   dsimp only
   rw [hj]; rfl
  ·have hA : preB (mk (38 :: r')) ampB = true := (pre_iff _ _).2 ⟨r', rfl⟩
   rw [hA]
   simp only [if_true]
   have hp' : partsG (oneF d) ampB _ _ _ = _ := hp.trans hstop
   rw [hp']
   dsimp only
   rw [hj]
theorem Gr.prog {b d op l ts} (h : Gr b d op l ts) : (b = false -> OneSt d l ts) /\ (b = true -> WaySt d op l ts) := by
 induction h with
 | this d op =>
  refine ⟨fun _ q b hq hb => ⟨_, rfl, ?_⟩, fun e => by cases e⟩
  rw [plain_of (not_open hq ⟨116, _, rfl, by decide⟩)]
  obtain ⟨h1, h2⟩ := name_ok q thisL b hq (by decide) (good_ends hb)
  unfold plainG
  rw [h1, (isThis_iff thisL).2 rfl, h2]; rfl
 | rel d op a h1 h2 =>
  refine ⟨fun _ q b hq hb => ⟨_, rfl, ?_⟩, fun e => by cases e⟩
  rw [plain_of (not_open hq (name_head h1))]
  obtain ⟨g1, g2⟩ := name_ok q a b hq h1 (good_ends hb)
  have ht : isThis (mk a) = false := by
   cases e : isThis (mk a)
   ·rfl
   ·exact absurd ((isThis_iff a).1 e) h2
  have hp : preB (mk b) arrB = false := by
   refine pre_false _ _ ?_
   rintro ⟨x, hx⟩
   rw [mk_list] at hx
   exact good_ne hb (c := 45) (by decide) _ hx
  unfold plainG
  rw [g1, ht, g2]
  simp only [Bool.false_eq_true, if_false, hp]
 | arrow d op a b' h1 h2 h3 h4 =>
  refine ⟨fun _ q b hq hb => ⟨_, rfl, ?_⟩, fun e => by cases e⟩
  rw [plain_of (not_open (l := a) (b := 45 :: 62 :: b' ++ b) (by rw [hq]; simp) (name_head h1))]
  obtain ⟨g1, g2⟩ := name_ok q a (45 :: 62 :: b' ++ b) (by rw [hq]; simp) h1 (Or.inr ⟨45, _, rfl, by decide⟩)
  have ht : isThis (mk a) = false := by
   cases e : isThis (mk a)
   ·rfl
   ·exact absurd ((isThis_iff a).1 e) h3
  have ht2 : isThis (mk b') = false := by
   cases e : isThis (mk b')
   ·rfl
   ·exact absurd ((isThis_iff b').1 e) h4
  obtain ⟨s1, s2⟩ := sees_gen { q with rest := mk (45 :: 62 :: b' ++ b) } arrB (b' ++ b) rfl
  obtain ⟨k1, k2⟩ := name_ok { q with rest := mk (b' ++ b) } b' b (mk_list _) h2 (good_ends hb)
  have hr : Rd.relation { q with rest := mk (b' ++ b) } = { q with rest := mk b } := by
   unfold Rd.relation
   rw [k1, ht2, k2]; rfl
  unfold plainG
  rw [g1, ht, g2]
  simp only [Bool.false_eq_true, if_false]
  rw [if_pos s1, s2, hr]
  exact congrArg (fun t => (WayT.mk 2 (mk a) t [], _)) k1
 | br d op op' l ts h1 ih =>
  refine ⟨fun _ q b hq hb => ⟨_, rfl, ?_⟩, fun e => by cases e⟩
  obtain ⟨s1, s2⟩ := sees_gen q opB (l ++ 41 :: b) (by rw [hq]; simp [opB])
  have hw := way_whole h1 (ih.2 rfl) q.opened (41 :: b) (by unfold Rd.opened; rw [s2, mk_list]) (Or.inr ⟨b, rfl⟩)
  rw [oneF, if_pos s1, hw]
  show (joinT op' ts, { (Rd.mk (mk (41 :: b)) q.opened.opn q.opened.failed).must clB with opn := q.opn }) = _
  have hm : (Rd.mk (mk (41 :: b)) q.opened.opn q.opened.failed).must clB = Rd.mk (mk b) q.opened.opn q.opened.failed := must_ok _ 41 b (mk_list _)
  rw [hm]
  dsimp only
  have hf : q.opened.failed = q.failed := by unfold Rd.opened; rw [s2]
  rw [hf]
 | one d op l ts h1 ih =>
  refine ⟨fun e => (by cases e), fun _ q b hq hb => ?_⟩
  obtain ⟨t, rfl, ht⟩ := ih.1 rfl q b hq hb
  exact ⟨t, b, ht, Or.inl ⟨rfl, rfl⟩, fun n hn => ⟨n, hn, rfl⟩⟩
 | more d op l m ts t hop h1 h2 ih1 ih2 =>
  refine ⟨fun e => (by cases e), fun _ q b hq hb => ?_⟩
  obtain ⟨t0, r0, g1, g2, g3⟩ := ih1.2 rfl q (op :: (m ++ b)) (by rw [hq]; simp) (Or.inr ⟨op, _, rfl, by rcases hop with h | h; exact Or.inr (Or.inl h); exact Or.inr (Or.inr h)⟩)
  have hlen := h1.len.1
  refine ⟨t0, r0, g1, Or.inr ⟨by simp; omega, ?_⟩, fun n hn => ?_⟩
  ·rcases g2 with ⟨-, rfl⟩ | ⟨-, r', rfl⟩
   ·exact ⟨_, rfl⟩
   ·exact ⟨_, rfl⟩
  ·obtain ⟨k, hk, hp⟩ := g3 n hn
   obtain ⟨j, rfl⟩ : ∃ j, k = j + 1 := ⟨k - 1, by simp at hk; omega⟩
   obtain ⟨s1, s2⟩ := sees_gen { q with rest := mk (op :: (m ++ b)) } { data := #[op] } (m ++ b) rfl
   obtain ⟨t', e, ht⟩ := ih2.1 rfl { q with rest := mk (m ++ b) } b (mk_list _) hb
   have et : t = t' := by injection e
   refine ⟨j, by simp at hk; omega, ?_⟩
   rw [hp, partsG, if_pos s1, s2, ht, et]
theorem not_f {b : Bool} (h : b = false) : ¬ b = true := by rw [h]; decide
theorem relation_sound (q : Rd) (h : q.relation.failed = false) : ∃ a b, q.rest.data.toList = a ++ b /\ nameL a = true /\ a ≠ thisL /\ nameOf q.rest = mk a /\ q.relation = { q with rest := mk b } := by
 unfold Rd.relation at h ⊢
 split at h
 ·cases h
 ·rename_i ht
  rcases name_cases q with e | ⟨a, b, h1, h2, h3, h4⟩
  ·rw [e] at h; cases h
  ·refine ⟨a, b, h1, h2, fun e => ht (by rw [h3]; exact (isThis_iff a).2 e), h3, ?_⟩
   rw [if_neg ht]; exact h4
theorem plain_sound (d : Nat) (q : Rd) (h : (plainG q).2.failed = false) : ∃ l b, q.rest.data.toList = l ++ b /\ (plainG q).2 = { q with rest := mk b } /\ ∀ op, Gr false d op l [(plainG q).1] := by
 unfold plainG at h ⊢
 rcases name_cases q with e | ⟨a, b, h1, h2, h3, h4⟩
 ·exfalso
  rw [e] at h
  have hf : q.fail.failed = true := rfl
  split at h
  ·exact not_f h hf
  ·split at h
   ·exact not_f h (relation_f _ (sees_f _ _ hf))
   ·exact not_f h hf
 ·rw [h3, h4] at h ⊢
  split
  ·rename_i ht
   have e := (isThis_iff a).1 ht
   subst e
   exact ⟨thisL, b, h1, rfl, fun op => .this d op⟩
  ·rename_i ht
   rw [if_neg ht] at h
   have hne : a ≠ thisL := fun e => ht ((isThis_iff a).2 e)
   split
   ·rename_i hp
    rw [if_pos hp] at h
    obtain ⟨r, hr⟩ := (pre_iff _ _).1 hp
    have hb : b = 45 :: 62 :: r := hr
    obtain ⟨-, s2⟩ := sees_gen { q with rest := mk b } arrB r hr
    rw [s2] at h ⊢
    obtain ⟨a2, b2, k1, k2, k3, k4, k5⟩ := relation_sound _ h
    have k1' : r = a2 ++ b2 := k1
    refine ⟨a ++ 45 :: 62 :: a2, b2, by rw [h1, hb, k1']; simp, k5, fun op => ?_⟩
    have k4' : nameOf (mk r) = mk a2 := k4
    show Gr false d op _ [.mk 2 (mk a) (nameOf (mk r)) []]
    rw [k4']
    exact .arrow d op a a2 h2 k2 hne k3
   ·exact ⟨a, b, h1, rfl, fun op => .rel d op a h2 hne⟩
theorem parts_sound (d : Nat) (ih : ∀ q, (oneF d q).2.failed = false -> ∃ l b, q.rest.data.toList = l ++ b /\ (oneF d q).2 = { q with rest := mk b } /\ ∀ op, Gr false d op l [(oneF d q).1]) (op : UInt8) (hop : op = 124 \/ op = 38) (s : List UInt8) :
  ∀ n acc (q : Rd) l, s = l ++ q.rest.data.toList -> Gr true d op l acc -> (partsG (oneF d) { data := #[op] } n acc q).2.failed = false ->
   ∃ l' b, s = l' ++ b /\ (partsG (oneF d) { data := #[op] } n acc q).2 = { q with rest := mk b } /\ Gr true d op l' (partsG (oneF d) { data := #[op] } n acc q).1 := by
 intro n
 induction n with
 | zero => intro acc q l hs hg _; exact ⟨l, q.rest.data.toList, hs, rfl, hg⟩
 | succ n ihn =>
  intro acc q l hs hg hf
  rw [partsG] at hf ⊢
  split
  ·rename_i hp
   rw [if_pos hp] at hf
   obtain ⟨r, hr⟩ := (pre_iff _ _).1 hp
   have hr' : q.rest.data.toList = op :: r := hr
   obtain ⟨-, s2⟩ := sees_gen q { data := #[op] } r hr
   have h1 : (oneF d (q.sees { data := #[op] })).2.failed = false := by
    cases e : (oneF d (q.sees { data := #[op] })).2.failed
    ·rfl
    ·exact absurd (partsG_f (oneF_f d) _ _ _ _ e) (not_f hf)
   obtain ⟨m, b, k1, k2, k3⟩ := ih _ h1
   rw [s2] at k1 k2 k3 hf ⊢
   have k1' : r = m ++ b := k1
   rw [k2] at hf ⊢
   exact ihn _ _ (l ++ op :: m) (by rw [hs, hr', k1', mk_list]; simp) (.more d op l m acc _ hop hg (k3 op)) hf
  ·exact ⟨l, q.rest.data.toList, hs, rfl, hg⟩
theorem way_soundP (d : Nat) (ih : ∀ q, (oneF d q).2.failed = false -> ∃ l b, q.rest.data.toList = l ++ b /\ (oneF d q).2 = { q with rest := mk b } /\ ∀ op, Gr false d op l [(oneF d q).1]) (q : Rd) (h : (wayG (oneF d) q).2.failed = false) :
  ∃ l b op ts, q.rest.data.toList = l ++ b /\ (wayG (oneF d) q).2 = { q with rest := mk b } /\ (op = 124 \/ op = 38) /\ Gr true d op l ts /\ (wayG (oneF d) q).1 = joinT op ts := by
 have h1 : (oneF d q).2.failed = false := by
  cases e : (oneF d q).2.failed
  ·rfl
  ·exact absurd (partsG_f (oneF_f d) _ _ _ _ e) (not_f h)
 obtain ⟨l, b, k1, k2, k3⟩ := ih q h1
 have hj : ∀ (ts : List WayT) (op : UInt8), (op = 124 \/ op = 38) -> 1 <= ts.length -> joinW (if op = 38 then 4 else 3) ts = joinT op ts := fun ts op _ hl => by
  match ts, hl with
  | [_], _ => rfl
  | _ :: _ :: _, _ => rfl
 unfold wayG wayP markOf isOf at h ⊢
 cases hA : preB (oneF d q).2.rest ampB
 ·rw [hA] at h
  simp only [Bool.false_eq_true, if_false] at h ⊢
  obtain ⟨l', b', g1, g2, g3⟩ := parts_sound d ih 124 (Or.inl rfl) q.rest.data.toList _ [(oneF d q).1] (oneF d q).2 l (by rw [k2, mk_list]; exact k1) (.one _ _ _ _ (k3 124)) h
  refine ⟨l', b', 124, _, g1, ?_, Or.inl rfl, g3, hj _ 124 (Or.inl rfl) g3.len.1⟩
  have g2' : (partsG (oneF d) barB (oneF d q).2.rest.size [(oneF d q).1] (oneF d q).2).2 = { (oneF d q).2 with rest := mk b' } := g2
  rw [g2', k2]
 ·rw [hA] at h
  simp only [if_true] at h ⊢
  obtain ⟨l', b', g1, g2, g3⟩ := parts_sound d ih 38 (Or.inr rfl) q.rest.data.toList _ [(oneF d q).1] (oneF d q).2 l (by rw [k2, mk_list]; exact k1) (.one _ _ _ _ (k3 38)) h
  refine ⟨l', b', 38, _, g1, ?_, Or.inr rfl, g3, hj _ 38 (Or.inr rfl) g3.len.1⟩
  have g2' : (partsG (oneF d) ampB (oneF d q).2.rest.size [(oneF d q).1] (oneF d q).2).2 = { (oneF d q).2 with rest := mk b' } := g2
  rw [g2', k2]
theorem one_sound : ∀ d q, (oneF d q).2.failed = false -> ∃ l b, q.rest.data.toList = l ++ b /\ (oneF d q).2 = { q with rest := mk b } /\ ∀ op, Gr false d op l [(oneF d q).1] := by
 intro d
 induction d with
 | zero =>
  intro q h
  cases hp : preB q.rest opB
  ·rw [plain_of hp] at h ⊢; exact plain_sound 0 q h
  ·rw [oneF, if_pos hp] at h; cases h
 | succ d ih =>
  intro q h
  cases hp : preB q.rest opB
  ·rw [plain_of hp] at h ⊢; exact plain_sound _ q h
  ·rw [oneF, if_pos hp] at h ⊢
   obtain ⟨r, hr⟩ := (pre_iff _ _).1 hp
   obtain ⟨-, s2⟩ := sees_gen q opB r hr
   have hw : (wayG (oneF d) q.opened).2.failed = false := by
    cases e : (wayG (oneF d) q.opened).2.failed
    ·rfl
    ·exact absurd (must_f _ clB e) (not_f h)
   obtain ⟨l, b, op, ts, g1, g2, -, g4, g5⟩ := way_soundP d ih _ hw
   have hrest : q.opened.rest.data.toList = r := by unfold Rd.opened; rw [s2, mk_list]
   have hfail : q.opened.failed = q.failed := by unfold Rd.opened; rw [s2]
   rw [g2] at h
   have hb : ∃ x, b = 41 :: x := by
    refine Classical.byContradiction fun hn => ?_
    have hm : Rd.must { q.opened with rest := mk b } clB = Rd.fail { q.opened with rest := mk b } := must_no _ 41 (by rintro ⟨x, hx⟩; exact hn ⟨x, hx⟩)
    have h' : (Rd.must { q.opened with rest := mk b } clB).failed = false := h
    rw [hm] at h'; cases h'
   obtain ⟨x, rfl⟩ := hb
   have hm : Rd.must { q.opened with rest := mk (41 :: x) } clB = { q.opened with rest := mk x } := must_ok _ 41 x (mk_list _)
   rw [hrest] at g1
   refine ⟨40 :: (l ++ [41]), x, by rw [hr, g1]; simp [opB], ?_, fun o => ?_⟩
   ·rw [g2, hm]
    show Rd.mk (mk x) q.opn q.opened.failed = _
    rw [hfail]
   ·show Gr false (d + 1) o _ [(wayG (oneF d) q.opened).1]
    rw [g5]
    exact .br d o op l ts g4
structure RuleD (s : ByteArray) (k rel way : List UInt8) (op : UInt8) (ts : List WayT) : Prop where
 text : s.data.toList = k ++ 35 :: (rel ++ 61 :: way)
 hk : nameL k = true
 hr : nameL rel = true
 hne : rel ≠ thisL
 hop : op = 124 \/ op = 38
 gr : Gr true 5 op way ts
theorem rule_of (s : ByteArray) {k rel way : List UInt8} {op : UInt8} {ts : List WayT} (h : RuleD s k rel way op ts) :
  headKind (rd0 s) = mk k /\ headRel (rd0 s) = mk rel /\ ruleW s = (joinT op ts, rd0 (mk [])) /\ (ruleW s).2.ended = true := by
 have hm : markB ((35 : UInt8).toNat : Int) = true := by decide
 obtain ⟨n1, n2⟩ := name_ok (rd0 s) k (35 :: (rel ++ 61 :: way)) h.text h.hk (Or.inr ⟨35, _, rfl, hm⟩)
 have m1 : (rd0 s).name.must { data := #[35] } = rd0 (mk (rel ++ 61 :: way)) := by
  rw [n2]; exact must_ok _ 35 (rel ++ 61 :: way) (mk_list _)
 obtain ⟨r1, r2⟩ := name_ok (rd0 (mk (rel ++ 61 :: way))) rel (61 :: way) (mk_list _) h.hr (Or.inr ⟨61, _, rfl, by decide⟩)
 have hthis : isThis (mk rel) = false := by
  cases e : isThis (mk rel)
  ·rfl
  ·exact absurd ((isThis_iff rel).1 e) h.hne
 have hh : (rd0 s).head = rd0 (mk (61 :: way)) := by
  unfold Rd.head; rw [m1]; unfold Rd.relation; rw [r1, hthis, r2]; rfl
 have hq : ruleQ s = rd0 (mk way) := by
  unfold ruleQ; rw [hh]; exact must_ok _ 61 way (mk_list _)
 have hw : ruleW s = (joinT op ts, rd0 (mk [])) := by
  unfold ruleW; rw [hq]
  exact way_whole h.gr (h.gr.prog.2 rfl) (rd0 (mk way)) [] (by simp [rd0, mk_list]) (Or.inl rfl)
 refine ⟨n1, ?_, hw, by rw [hw]; rfl⟩
 unfold headRel; rw [m1]; exact r1
theorem rule_parts (s : ByteArray) (h : (ruleW s).2.ended = true) : ∃ k rel way op ts, RuleD s k rel way op ts := by
 have hf : (ruleW s).2.failed = false /\ (ruleW s).2.rest.size = 0 := by
  unfold Rd.ended at h; rw [Bool.and_eq_true, decide_eq_true_eq, Bool.not_eq_true'] at h; exact ⟨h.2, h.1⟩
 obtain ⟨l, b, op, ts, g1, g2, g3, g4, -⟩ := way_soundP 5 (one_sound 5) (ruleQ s) hf.1
 have hb : b = [] := by
  have := hf.2
  have e : (ruleW s).2.rest = mk b := by show (wayG (oneF 5) (ruleQ s)).2.rest = _; rw [g2]
  rw [e, mk_size] at this
  exact List.eq_nil_of_length_eq_zero this
 subst hb
 have hqf : (ruleQ s).failed = false := by
  cases e : (ruleQ s).failed
  ·rfl
  ·exact absurd (wayG_f (oneF_f 5) _ e) (not_f hf.1)
 have hhf : (rd0 s).head.failed = false := by
  cases e : (rd0 s).head.failed
  ·rfl
  ·exact absurd (must_f _ eqB e) (not_f hqf)
 obtain ⟨a, b, k1, k2, k3, -, k5⟩ := relation_sound _ hhf
 rcases name_must (rd0 s) 35 (by decide) with ⟨k, r, m1, m2, -, m4⟩ | ⟨-, m⟩
 ·rw [m4] at k1 k5
  have k1' : r = a ++ b := k1
  have hh : (rd0 s).head = rd0 (mk b) := by unfold Rd.head; rw [m4]; exact k5
  have hbx : ∃ x, b = 61 :: x := by
   refine Classical.byContradiction fun hn => ?_
   have : (rd0 s).head.must eqB = Rd.fail (rd0 s).head := must_no _ 61 (by rw [hh]; rintro ⟨x, hx⟩; exact hn ⟨x, hx⟩)
   have h' : ((rd0 s).head.must eqB).failed = false := hqf
   rw [this] at h'; cases h'
  obtain ⟨x, rfl⟩ := hbx
  have hq : ruleQ s = rd0 (mk x) := by
   unfold ruleQ; rw [hh]; exact must_ok _ 61 x (mk_list _)
  rw [hq] at g1
  have g1' : x = l := by simpa [rd0, mk_list] using g1
  subst g1'
  exact ⟨k, a, x, op, ts, by rw [show s.data.toList = k ++ 35 :: r from m1, k1'], m2, k2, k3, g3, g4⟩
 ·exact absurd (relation_f _ m) (not_f hhf)
theorem rule_read (s : ByteArray) {k rel way : List UInt8} {op : UInt8} {ts : List WayT} (h : RuleD s k rel way op ts) : readOf s = mk (k ++ 35 :: rel) /\ readWay s = mk way /\ (s.size <= 200 -> readS s = true) := by
 have hx : ∀ x ∈ k ++ 35 :: rel, x ≠ (61 : UInt8) := by
  intro x hx
  simp only [List.mem_append, List.mem_cons] at hx
  rcases hx with h1 | rfl | h1
  ·exact noMark_ne (nameL_noMark h.hk) (by decide) x h1
  ·decide
  ·exact noMark_ne (nameL_noMark h.hr) (by decide) x h1
 obtain ⟨c1, c2, c3⟩ := cut_at s (k ++ 35 :: rel) way 61 (by rw [h.text]; simp) hx
 have hk : ∀ x ∈ k, x ≠ (35 : UInt8) := noMark_ne (nameL_noMark h.hk) (by decide)
 obtain ⟨d1, d2, d3⟩ := cut_at (mk (k ++ 35 :: rel)) k rel 35 (mk_list _) hk
 have e1 : readOf s = mk (k ++ 35 :: rel) := c1
 have e2 : readWay s = mk way := c2
 refine ⟨e1, e2, fun hs => ?_⟩
 obtain ⟨w1, w2⟩ := (way_iff (mk way)).2 ⟨op, ts, h.hop, by rw [mk_list]; exact h.gr⟩
 have d1' : cutA (mk (k ++ 35 :: rel)) 35 = mk k := d1
 have d2' : cutZ (mk (k ++ 35 :: rel)) 35 = mk rel := d2
 have d3' : cutOk (mk (k ++ 35 :: rel)) 35 = true := d3
 have c3' : cutOk s 61 = true := c3
 unfold readS
 rw [e1, e2, d1', d2', d3', c3', w1, w2, show nameS (mk k) = true from h.hk, show nameS (mk rel) = true from h.hr, decide_eq_true hs]
 have : ¬ mk rel = thisS := fun e => h.hne (congrArg (fun s => s.data.toList) e)
 simp [this]
theorem read_rule (s : ByteArray) (h : readS s = true) : s.size <= 200 /\ ∃ k rel way op ts, RuleD s k rel way op ts := by
 unfold readS at h
 simp only [Bool.and_eq_true, decide_eq_true_eq, Bool.not_eq_true'] at h
 obtain ⟨⟨⟨⟨⟨⟨⟨h1, h2⟩, h3⟩, h4⟩, h5⟩, h6⟩, h7⟩, h8⟩ := h
 refine ⟨h1, ?_⟩
 obtain ⟨op, ts, ho, hg⟩ := (way_iff (readWay s)).1 ⟨h7, h2⟩
 have t1 := cut_of s 61 h3
 have t2 := cut_of (readOf s) 35 h4
 refine ⟨_, _, _, op, ts, ?_, h5, h6, ?_, ho, hg⟩
 ·have t1' : s.data.toList = (readOf s).data.toList ++ 61 :: (readWay s).data.toList := t1
  have t2' : (readOf s).data.toList = (cutA (readOf s) 35).data.toList ++ 35 :: (cutZ (readOf s) 35).data.toList := t2
  rw [t1', t2']; simp
 ·intro e
  have : cutZ (readOf s) 35 = thisS := bytes_ext e
  rw [this] at h8; simp at h8
theorem rule_same (s : ByteArray) : ruleOk s = readS s := by
 rw [Bool.eq_iff_iff]
 constructor
 ·intro h
  unfold ruleOk at h
  simp only [Bool.and_eq_true, decide_eq_true_eq] at h
  obtain ⟨k, rel, way, op, ts, hd⟩ := rule_parts s h.2
  exact (rule_read s hd).2.2 h.1
 ·intro h
  obtain ⟨hs, k, rel, way, op, ts, hd⟩ := read_rule s h
  unfold ruleOk
  rw [(rule_of s hd).2.2.2, decide_eq_true hs]; rfl
end Go.Proofs.YtalmoiogbdahcaaGreat
