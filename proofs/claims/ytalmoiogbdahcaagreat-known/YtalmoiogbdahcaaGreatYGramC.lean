import Derived.Test.YtalmoiogbdahcaaGreatYRefA
import Derived.Test.YtalmoiogbdahcaaGreatYWrdC
import Derived.Test.YtalmoiogbdahcaaGreatYRefD
namespace Go.Proofs.YtalmoiogbdahcaaGreat
set_option maxRecDepth 100000
set_option maxHeartbeats 8000000
open Go.RowKit
theorem u8i (c e : UInt8) : ((c.toNat : Int) = (e.toNat : Int)) ↔ c = e := by
 constructor
 ·intro h; exact UInt8.toNat_inj.1 (Int.ofNat_inj.1 h)
 ·intro h; rw [h]
theorem u40 (c : UInt8) : ((c.toNat : Int) = 40) ↔ c = 40 := u8i c 40
theorem u41 (c : UInt8) : ((c.toNat : Int) = 41) ↔ c = 41 := u8i c 41
theorem u124 (c : UInt8) : ((c.toNat : Int) = 124) ↔ c = 124 := u8i c 124
theorem u38 (c : UInt8) : ((c.toNat : Int) = 38) ↔ c = 38 := u8i c 38
def joinT (op : UInt8) : List WayT -> WayT
 | [t] => t
 | ts => .mk (if op = 38 then 4 else 3) noneB noneB ts
inductive Gr : Bool -> Nat -> UInt8 -> List UInt8 -> List WayT -> Prop
 | this (d op) : Gr false d op thisL [.mk 0 noneB noneB []]
 | rel (d op a) : nameL a = true -> a ≠ thisL -> Gr false d op a [.mk 1 noneB (mk a) []]
 | arrow (d op a b) : nameL a = true -> nameL b = true -> a ≠ thisL -> b ≠ thisL -> Gr false d op (a ++ 45 :: 62 :: b) [.mk 2 (mk a) (mk b) []]
 | br (d op op' l ts) : Gr true d op' l ts -> Gr false (d + 1) op (40 :: (l ++ [41])) [joinT op' ts]
 | one (d op l ts) : Gr false d op l ts -> Gr true d op l ts
 | more (d op l m ts t) : (op = 124 \/ op = 38) -> Gr true d op l ts -> Gr false d op m [t] -> Gr true d op (l ++ op :: m) (ts ++ [t])
theorem Gr.len {b d op l ts} (h : Gr b d op l ts) : 1 <= ts.length /\ (b = false -> ts.length = 1) := by
 induction h <;> simp_all <;> omega
theorem Gr.anyOp {d op l ts} (h : Gr false d op l ts) (op' : UInt8) : Gr false d op' l ts := by
 cases h with
 | this => exact .this _ _
 | rel _ _ _ h1 h2 => exact .rel _ _ _ h1 h2
 | arrow _ _ _ _ h1 h2 h3 h4 => exact .arrow _ _ _ _ h1 h2 h3 h4
 | br _ _ _ _ _ h1 => exact .br _ _ _ _ _ h1
theorem Gr.single {d op l ts} (h : Gr true d op l ts) (hl : ts.length = 1) : Gr false d op l ts := by
 cases h with
 | one _ _ _ _ h1 => exact h1
 | more _ _ _ _ ts t h1 h2 h3 => have := h2.len.1; simp at hl; subst hl; simp at this
def scn (q : Sc) (i : Nat) : List UInt8 -> Sc
 | [] => q
 | c :: r => scn (q.step i c.toNat) (i + 1) r
def ngt (q : Sc) (i : Nat) : List UInt8 -> Bool
 | [] => false
 | c :: r => decide ((q.step i c.toNat).d < 0) || ngt (q.step i c.toNat) (i + 1) r
def dpt (m : Int) (q : Sc) (i : Nat) : List UInt8 -> Bool
 | [] => false
 | c :: r => decide (m < (q.step i c.toNat).d) || dpt m (q.step i c.toNat) (i + 1) r
def sc0 : Sc := ⟨0, -1, false, false⟩
theorem scn_append (q : Sc) (i : Nat) (a b : List UInt8) : scn q i (a ++ b) = scn (scn q i a) (i + a.length) b := by
 induction a generalizing q i with
 | nil => rfl
 | cons c a ih => simp only [List.cons_append, scn, ih, List.length_cons]; congr 1; omega
theorem ngt_append (q : Sc) (i : Nat) (a b : List UInt8) : ngt q i (a ++ b) = (ngt q i a || ngt (scn q i a) (i + a.length) b) := by
 induction a generalizing q i with
 | nil => simp [ngt, scn]
 | cons c a ih =>
  simp only [List.cons_append, scn, ngt, ih, List.length_cons, Bool.or_assoc]
  rw [show i + 1 + a.length = i + (a.length + 1) by omega]
theorem dpt_append (m : Int) (q : Sc) (i : Nat) (a b : List UInt8) : dpt m q i (a ++ b) = (dpt m q i a || dpt m (scn q i a) (i + a.length) b) := by
 induction a generalizing q i with
 | nil => simp [dpt, scn]
 | cons c a ih =>
  simp only [List.cons_append, scn, dpt, ih, List.length_cons, Bool.or_assoc]
  rw [show i + 1 + a.length = i + (a.length + 1) by omega]
theorem take_get (l : List UInt8) (k : Nat) (h : k < l.length) : l.take (k + 1) = l.take k ++ [l.getD k 0] := by
 rw [List.take_succ_eq_append_getElem h, List.getD_eq_getElem?_getD, List.getElem?_eq_getElem h]; rfl
theorem scanK_scn (l : List UInt8) (k : Nat) (h : k <= l.length) : scanK l k = scn sc0 0 (l.take k) := by
 induction k with
 | zero => rfl
 | succ k ih =>
  rw [take_get l k (by omega), scn_append, scanK, ih (by omega), List.length_take, Nat.min_eq_left (by omega), Nat.zero_add]; rfl
theorem negK_ngt (l : List UInt8) (k : Nat) (h : k <= l.length) : negK l k = ngt sc0 0 (l.take k) := by
 induction k with
 | zero => rfl
 | succ k ih =>
  rw [negK, scanK_scn l (k + 1) h, take_get l k (by omega), ngt_append, ih (by omega), scn_append, List.length_take, Nat.min_eq_left (by omega), Nat.zero_add]
  simp [ngt, scn]
theorem step_d (q : Sc) (i c : Int) : (q.step i c).d = q.d + (if c = 40 then 1 else 0) - (if c = 41 then 1 else 0) := by
 unfold Sc.step
 split
 ·rename_i h; subst h; simp
 ·split
  ·simp
  ·split
   ·simp
   ·split <;> simp
theorem deep_scan (l : List UInt8) (k : Nat) : deepK l k = (scanK l k).d := by
 induction k with
 | zero => rfl
 | succ k ih => rw [deepK, scanK, step_d, ih]
theorem tooDeep_dpt (l : List UInt8) (k : Nat) (h : k <= l.length) : tooDeep l k = dpt 5 sc0 0 (l.take k) := by
 induction k with
 | zero => rfl
 | succ k ih =>
  rw [tooDeep, deep_scan, scanK_scn l (k + 1) h, take_get l k (by omega), dpt_append, ih (by omega), scn_append, List.length_take, Nat.min_eq_left (by omega), Nat.zero_add]
  simp [dpt, scn]
theorem dpt_shift (m : Int) (l : List UInt8) : ∀ (q p : Sc) (i j : Nat), q.d = p.d -> dpt m q i l = dpt m p j l := by
 induction l with
 | nil => intros; rfl
 | cons c l ih =>
  intro q p i j h
  have e : (q.step i c.toNat).d = (p.step j c.toNat).d := by rw [step_d, step_d, h]
  rw [dpt, dpt, e, ih _ _ (i + 1) (j + 1) e]
theorem dpt_up {m : Int} {l : List UInt8} : ∀ {q p : Sc} {i j : Nat} (k : Int), p.d + k = q.d -> dpt (m + k) q i l = dpt m p j l := by
 induction l with
 | nil => intros; rfl
 | cons c l ih =>
  intro q p i j k h
  have e : (p.step j c.toNat).d + k = (q.step i c.toNat).d := by rw [step_d, step_d]; omega
  rw [dpt, dpt, ih k e, ← e]
  congr 1
  simp
def quietB (c : UInt8) : Prop := c ≠ 40 /\ c ≠ 41 /\ c ≠ 124 /\ c ≠ 38
theorem step_quiet {c : UInt8} (h : quietB c) (q : Sc) (i : Int) : q.step i c.toNat = q := by
 unfold Sc.step
 rw [if_neg (fun e => h.1 ((u40 c).1 e)), if_neg (fun e => h.2.1 ((u41 c).1 e)), if_neg (fun e => h.2.2.1 ((u124 c).1 e.2)), if_neg (fun e => h.2.2.2 ((u38 c).1 e.2))]
theorem scn_quiet : ∀ (l : List UInt8), (∀ x ∈ l, quietB x) -> ∀ q i, 0 <= q.d -> scn q i l = q /\ ngt q i l = false /\ ∀ m, q.d <= m -> dpt m q i l = false := by
 intro l
 induction l with
 | nil => intros; exact ⟨rfl, rfl, fun _ _ => rfl⟩
 | cons c l ih =>
  intro h q i hq
  have hc := step_quiet (h c (by simp)) q i
  obtain ⟨h1, h2, h3⟩ := ih (fun x hx => h x (by simp [hx])) q (i + 1) hq
  rw [scn, ngt, hc]
  refine ⟨h1, by rw [h2]; simp; omega, fun m hm => ?_⟩
  rw [dpt, hc, h3 m hm]; simp; omega
theorem mark_q {c : UInt8} (h : markB c.toNat = false) : quietB c := by
 refine ⟨?_, ?_, ?_, ?_⟩ <;> (rintro rfl; revert h; decide)
theorem name_quiet {a : List UInt8} (h : nameL a = true) : ∀ x ∈ a, quietB x := fun x hx => mark_q (nameL_noMark h x hx)
theorem this_quiet : ∀ x ∈ thisL, quietB x := by
 intro x hx; simp [thisL] at hx
 rcases hx with rfl | rfl | rfl | rfl <;> (unfold quietB; decide)
theorem arrow_quiet {a b : List UInt8} (ha : nameL a = true) (hb : nameL b = true) : ∀ x ∈ a ++ 45 :: 62 :: b, quietB x := by
 intro x hx
 simp only [List.mem_append, List.mem_cons] at hx
 rcases hx with h | rfl | rfl | h
 ·exact name_quiet ha x h
 ·unfold quietB; decide
 ·unfold quietB; decide
 ·exact name_quiet hb x h
theorem st40 (q : Sc) (i : Int) : q.step i (((40 : UInt8).toNat : Nat) : Int) = { q with d := q.d + 1 } := rfl
theorem st41 (q : Sc) (i : Int) : q.step i (((41 : UInt8).toNat : Nat) : Int) = { q with d := q.d - 1 } := rfl
theorem st_op {op : UInt8} (h : op = 124 \/ op = 38) (q : Sc) (i : Int) : (q.d ≠ 0 -> q.step i op.toNat = q) /\ (q.d = 0 -> q.step i op.toNat = ⟨0, i, q.o || op == 124, q.n || op == 38⟩) := by
 obtain ⟨d, a, o, n⟩ := q
 rcases h with rfl | rfl
 ·refine ⟨fun hd => ?_, fun hd => ?_⟩
  ·exact step_else d a o n i _ (by decide) (by decide) (fun e => hd e.1) (fun e => hd e.1)
  ·dsimp only at hd; subst hd; rw [show (((124 : UInt8).toNat : Nat) : Int) = 124 by rfl, step124]; simp
 ·refine ⟨fun hd => ?_, fun hd => ?_⟩
  ·exact step_else d a o n i _ (by decide) (by decide) (fun e => hd e.1) (fun e => hd e.1)
  ·dsimp only at hd; subst hd; rw [show (((38 : UInt8).toNat : Nat) : Int) = 38 by rfl, step38]; simp
structure ScanOk (b : Bool) (d : Nat) (op : UInt8) (l : List UInt8) (ts : List WayT) : Prop where
 inside : ∀ (q : Sc) (i : Nat), 0 < q.d -> scn q i l = q /\ ngt q i l = false
 top : ∀ (q : Sc) (i : Nat), q.d = 0 -> ngt q i l = false /\ (scn q i l).d = 0 /\ (ts.length = 1 -> scn q i l = q) /\ (2 <= ts.length -> (i : Int) <= (scn q i l).a /\ (scn q i l).o = (q.o || op == 124) /\ (scn q i l).n = (q.n || op == 38))
 deep : ∀ (m : Int) (q : Sc) (i : Nat), 0 <= q.d -> q.d + (d : Int) <= m -> dpt m q i l = false
theorem ScanOk.one {b : Bool} {d : Nat} {op : UInt8} {l : List UInt8} {ts : List WayT} (hl : ts.length = 1) (h : ∀ (q : Sc) (i : Nat), 0 <= q.d -> scn q i l = q /\ ngt q i l = false /\ ∀ m : Int, q.d + (d : Int) <= m -> dpt m q i l = false) : ScanOk b d op l ts := by
 refine ⟨fun q i hq => ⟨(h q i (by omega)).1, (h q i (by omega)).2.1⟩, fun q i hq => ?_, fun m q i h1 h2 => (h q i h1).2.2 m h2⟩
 obtain ⟨h1, h2, -⟩ := h q i (by omega)
 exact ⟨h2, by rw [h1]; exact hq, fun _ => h1, fun e => by omega⟩
theorem Gr.scan {b d op l ts} (h : Gr b d op l ts) : ScanOk b d op l ts := by
 induction h with
 | this => exact .one rfl fun q i hq => ⟨(scn_quiet _ this_quiet q i hq).1, (scn_quiet _ this_quiet q i hq).2.1, fun m hm => (scn_quiet _ this_quiet q i hq).2.2 m (by omega)⟩
 | rel d op a h1 h2 =>
  have hq := scn_quiet _ (name_quiet h1)
  exact .one rfl fun q i h0 => ⟨(hq q i h0).1, (hq q i h0).2.1, fun m hm => (hq q i h0).2.2 m (by omega)⟩
 | arrow d op a b h1 h2 h3 h4 =>
  have hq := scn_quiet _ (arrow_quiet h1 h2)
  exact .one rfl fun q i h0 => ⟨(hq q i h0).1, (hq q i h0).2.1, fun m hm => (hq q i h0).2.2 m (by omega)⟩
 | br d op op' l ts h1 ih =>
  refine .one rfl fun q i hq => ?_
  have hi := ih.inside { q with d := q.d + 1 } (i + 1) (by dsimp only; omega)
  have hd := fun m hm => ih.deep m { q with d := q.d + 1 } (i + 1) (by dsimp only; omega) hm
  refine ⟨?_, ?_, fun m hm => ?_⟩
  ·rw [scn, st40, scn_append, hi.1, scn, scn, st41]; simp
  ·rw [ngt, st40, ngt_append, hi.1, hi.2, ngt, ngt, st41]; simp; omega
  ·rw [dpt, st40, dpt_append, hi.1, hd m (by dsimp only; omega), dpt, dpt, st41]; simp; omega
 | one d op l ts h1 ih => exact ⟨ih.inside, ih.top, ih.deep⟩
 | more d op l m ts t hop h1 h2 ih1 ih2 =>
  have hlen := h1.len.1
  refine ⟨fun q i hq => ?_, fun q i hq => ?_, fun mm q i h0 hm => ?_⟩
  ·have e := (st_op hop q ((i + l.length : Nat) : Int)).1 (by omega)
   rw [scn_append, ngt_append, (ih1.inside q i hq).1, (ih1.inside q i hq).2, scn, ngt, e, (ih2.inside q _ hq).1, (ih2.inside q _ hq).2]
   simp; omega
  ·obtain ⟨g1, g2, g3, g4⟩ := ih1.top q i hq
   have e := (st_op hop (scn q i l) ((i + l.length : Nat) : Int)).2 g2
   have f := ih2.top ⟨0, ((i + l.length : Nat) : Int), (scn q i l).o || op == 124, (scn q i l).n || op == 38⟩ (i + l.length + 1) rfl
   have fe := f.2.2.1 rfl
   rw [scn_append, ngt_append, g1, scn, ngt, e, fe, f.1]
   refine ⟨by simp, rfl, fun hl => by simp at hl; subst hl; simp at hlen, fun _ => ⟨by show (i : Int) <= ((i + l.length : Nat) : Int); omega, ?_, ?_⟩⟩
   ·show ((scn q i l).o || op == 124) = _
    rcases Nat.lt_or_ge ts.length 2 with h | h
    ·rw [g3 (by omega)]
    ·rw [(g4 h).2.1, Bool.or_assoc, Bool.or_self]
   ·show ((scn q i l).n || op == 38) = _
    rcases Nat.lt_or_ge ts.length 2 with h | h
    ·rw [g3 (by omega)]
    ·rw [(g4 h).2.2, Bool.or_assoc, Bool.or_self]
  ·have hd : (scn q i l).d = q.d := by
    rcases Int.lt_or_eq_of_le h0 with h | h
    ·rw [(ih1.inside q i h).1]
    ·rw [(ih1.top q i h.symm).2.1]; exact h
   have hs : ((scn q i l).step ((i + l.length : Nat) : Int) op.toNat).d = q.d := by
    rw [step_d, hd]
    rcases hop with rfl | rfl <;> simp
   rw [dpt_append, ih1.deep mm q i h0 hm, dpt, hs, ih2.deep mm _ _ (by rw [hs]; exact h0) (by rw [hs]; exact hm)]
   simp; omega
theorem size_len (s : ByteArray) : s.size = s.data.toList.length := (Array.length_toList).symm
theorem take_size (s : ByteArray) : s.data.toList.take s.size = s.data.toList := by rw [size_len, List.take_length]
theorem scan_all (s : ByteArray) : scanK s.data.toList s.size = scn sc0 0 s.data.toList := by
 rw [scanK_scn _ _ (by rw [size_len]; exact Nat.le_refl _), take_size]
theorem neg_all (s : ByteArray) : negK s.data.toList s.size = ngt sc0 0 s.data.toList := by
 rw [negK_ngt _ _ (by rw [size_len]; exact Nat.le_refl _), take_size]
theorem deep_all (s : ByteArray) : tooDeep s.data.toList s.size = dpt 5 sc0 0 s.data.toList := by
 rw [tooDeep_dpt _ _ (by rw [size_len]; exact Nat.le_refl _), take_size]
theorem apartF_fuel : ∀ (f g : Nat) (s : ByteArray), s.size <= f -> s.size <= g -> apartF f s = apartF g s := by
 intro f
 induction f with
 | zero =>
  intro g s h1 h2
  have hx : ∀ i, frameS s i = .x := fun i => by
   unfold frameS
   split
   ·rfl
   ·rw [if_pos (Or.inr (Or.inr (by omega)))]
  rw [apartF_eq, apartF_eq, hx, hx]
 | succ f ih =>
  intro g s h1 h2
  cases g with
  | zero =>
   have hx : ∀ i, frameS s i = .x := fun i => by
    unfold frameS
    split
    ·rfl
    ·rw [if_pos (Or.inr (Or.inr (by omega)))]
   rw [apartF_eq, apartF_eq, hx, hx]
  | succ g =>
   rw [apartF, apartF]
   by_cases h : 2 < s.size
   ·rw [ih g (s.extract 1 (s.size - 1)) (by simp [ByteArray.size_extract]; omega) (by simp [ByteArray.size_extract]; omega)]
   ·have hx : ∀ i j, frameS s i = frameS s j := fun i j => by
     unfold frameS
     rw [if_neg (c := byteAt s 0 = 40 /\ byteAt s (s.size - 1) = 41 /\ 2 < s.size) (fun e => h e.2.2), if_neg (c := byteAt s 0 = 40 /\ byteAt s (s.size - 1) = 41 /\ 2 < s.size) (fun e => h e.2.2)]
    exact hx _ _
theorem wayF_zero (s : ByteArray) (h : s.size = 0) : ∀ f, wayF f s = false := by
 have hx : apartS s = .x := by
  unfold apartS; rw [apartF_eq]; unfold frameS
  split
  ·rfl
  ·rw [if_pos (Or.inr (Or.inr h))]
 intro f
 cases f <;> (rw [wayF, hx]; rfl)
theorem wayF_fuel : ∀ (f g : Nat) (s : ByteArray), s.size <= f -> s.size <= g -> wayF f s = wayF g s := by
 intro f
 induction f with
 | zero => intro g s h1 h2; rw [wayF_zero s (by omega), wayF_zero s (by omega)]
 | succ f ih =>
  intro g s h1 h2
  cases g with
  | zero => rw [wayF_zero s (by omega), wayF_zero s (by omega)]
  | succ g =>
   rw [wayF, wayF]
   split
   ·rfl
   ·rename_i h
    have hs := apart_size s.size s (by
     unfold apartS at h
     by_cases e : (apartF s.size s).is = 124
     ·exact Or.inl e
     ·right
      by_cases e2 : (apartF s.size s).is = 38
      ·exact e2
      ·exact absurd ⟨e, e2⟩ h)
    rw [ih g (apartS s).A (by have := hs.1; unfold apartS; omega) (by have := hs.1; unfold apartS; omega), ih g (apartS s).B (by have := hs.2; unfold apartS; omega) (by have := hs.2; unfold apartS; omega)]
theorem way_split (s : ByteArray) (h : (apartS s).is = 124 \/ (apartS s).is = 38) : wayS s = (wayS (apartS s).A && wayS (apartS s).B) := by
 have hs := apart_size s.size s h
 unfold wayS
 obtain ⟨k, hk⟩ : ∃ k, s.size = k + 1 := ⟨s.size - 1, by omega⟩
 rw [hk, wayF, if_neg (by rintro ⟨e1, e2⟩; rcases h with h | h; exact e1 h; exact e2 h)]
 have h1 : (apartS s).A.size <= k := by have := hs.1; unfold apartS; omega
 have h2 : (apartS s).B.size <= k := by have := hs.2; unfold apartS; omega
 rw [wayF_fuel k _ _ h1 (Nat.le_refl _), wayF_fuel k _ _ h2 (Nat.le_refl _)]
theorem way_flat (s : ByteArray) (h : ¬ ((apartS s).is = 124 \/ (apartS s).is = 38)) : wayS s = decide ((apartS s).is ≠ 120) := by
 have hc : (apartS s).is ≠ 124 /\ (apartS s).is ≠ 38 := ⟨fun e => h (Or.inl e), fun e => h (Or.inr e)⟩
 unfold wayS
 cases s.size <;> rw [wayF, if_pos hc]
theorem way_same {s m : ByteArray} (h : apartS s = apartS m) : wayS s = wayS m := by
 by_cases e : (apartS m).is = 124 \/ (apartS m).is = 38
 ·rw [way_split s (by rw [h]; exact e), way_split m e, h]
 ·rw [way_flat s (by rw [h]; exact e), way_flat m e, h]
theorem frame_cases (s : ByteArray) :
  (apartS s).is = 120 \/
  (ngt sc0 0 s.data.toList = false /\ (scn sc0 0 s.data.toList).d = 0 /\ ¬ ((scn sc0 0 s.data.toList).o = true /\ (scn sc0 0 s.data.toList).n = true) /\
    ((0 <= (scn sc0 0 s.data.toList).a /\ apartS s = opS s (scn sc0 0 s.data.toList).a.toNat) \/
     ((scn sc0 0 s.data.toList).a < 0 /\ byteAt s 0 = 40 /\ byteAt s (s.size - 1) = 41 /\ 2 < s.size /\ apartS s = apartS (s.extract 1 (s.size - 1))) \/
     ((scn sc0 0 s.data.toList).a < 0 /\ apartS s = plainS s))) := by
 unfold apartS
 rw [apartF_eq]
 unfold frameS
 rw [scan_all, neg_all]
 split
 ·left; rfl
 ·rename_i hn
  split
  ·left; rfl
  ·rename_i hc
   right
   refine ⟨by simpa using hn, Classical.not_not.1 fun e => hc (Or.inl e), fun e => hc (Or.inr (Or.inl e)), ?_⟩
   split
   ·rename_i ha; left; exact ⟨ha, rfl⟩
   ·rename_i ha
    split
    ·rename_i hb
     right; left
     refine ⟨by omega, hb.1, hb.2.1, hb.2.2, ?_⟩
     obtain ⟨k, hk⟩ : ∃ k, s.size = k + 1 := ⟨s.size - 1, by omega⟩
     rw [hk, innerF, ← hk]
     exact apartF_fuel _ _ _ (by simp [ByteArray.size_extract]; omega) (Nat.le_refl _)
    ·right; right; exact ⟨by omega, rfl⟩
theorem last_op : ∀ (l : List UInt8) (q : Sc) (i : Nat), q.a < i -> ((scn q i l).a = q.a /\ (scn q i l).o = q.o /\ (scn q i l).n = q.n) \/
  ∃ A op B, l = A ++ op :: B /\ (scn q i l).a = ((i + A.length : Nat) : Int) /\ (op = 124 \/ op = 38) /\ (scn q i A).d = 0 /\
   (scn q i l).o = ((scn q i A).o || op == 124) /\ (scn q i l).n = ((scn q i A).n || op == 38) := by
 intro l
 induction l with
 | nil => intro q i _; left; exact ⟨rfl, rfl, rfl⟩
 | cons c l ih =>
  intro q i hq
  have hstep : ((c = 124 \/ c = 38) /\ q.d = 0) \/ ((q.step i c.toNat).a = q.a /\ (q.step i c.toNat).o = q.o /\ (q.step i c.toNat).n = q.n) := by
   by_cases h : (c = 124 \/ c = 38) /\ q.d = 0
   ·exact Or.inl h
   ·right
    unfold Sc.step
    split
    ·exact ⟨rfl, rfl, rfl⟩
    ·split
     ·exact ⟨rfl, rfl, rfl⟩
     ·split
      ·rename_i h2; exact absurd ⟨Or.inl ((u124 c).1 h2.2), h2.1⟩ h
      ·split
       ·rename_i h2; exact absurd ⟨Or.inr ((u38 c).1 h2.2), h2.1⟩ h
       ·exact ⟨rfl, rfl, rfl⟩
  have hlt : (q.step i c.toNat).a < ((i + 1 : Nat) : Int) := by
   rcases hstep with ⟨h1, h2⟩ | h
   ·rw [(st_op h1 q i).2 h2]; show (i : Int) < _; omega
   ·rw [h.1]; omega
  rcases ih (q.step i c.toNat) (i + 1) hlt with h | ⟨A, op, B, h1, h2, h3, h4, h5, h6⟩
  ·rcases hstep with ⟨h1, h2⟩ | hs
   ·right
    have e := (st_op h1 q i).2 h2
    refine ⟨[], c, l, rfl, ?_, h1, h2, ?_, ?_⟩
    ·rw [scn, h.1, e]; simp
    ·show (scn (q.step i c.toNat) (i + 1) l).o = (q.o || c == 124)
     rw [h.2.1, e]
    ·show (scn (q.step i c.toNat) (i + 1) l).n = (q.n || c == 38)
     rw [h.2.2, e]
   ·left
    rw [scn]
    exact ⟨h.1.trans hs.1, h.2.1.trans hs.2.1, h.2.2.trans hs.2.2⟩
  ·right
   refine ⟨c :: A, op, B, by rw [h1]; rfl, ?_, h3, ?_, ?_, ?_⟩
   ·rw [scn, h2, List.length_cons]; congr 1; omega
   ·rw [scn]; exact h4
   ·exact h5
   ·exact h6
theorem opS_parts (s : ByteArray) (A B : List UInt8) (op : UInt8) (h : s.data.toList = A ++ op :: B) : opS s A.length = ⟨op.toNat, mk A, mk B⟩ := by
 unfold opS
 have e1 : byteAt s A.length = op.toNat := by unfold byteAt; rw [h]; simp
 have e2 : s.extract 0 A.length = mk A := eq_mk (by rw [extract_front, h, List.take_left])
 have e3 : s.extract (A.length + 1) s.size = mk B := eq_mk (by rw [extract_list, h, List.drop_append]; simp)
 rw [e1, e2, e3]
theorem plain_gr (s : ByteArray) (d : Nat) (op : UInt8) (h : (plainS s).is ≠ 120) : ∃ t, Gr false d op s.data.toList [t] := by
 unfold plainS at h
 split at h
 ·rename_i e; subst e; exact ⟨_, .this d op⟩
 ·rename_i hne
  split at h
  ·rename_i hn
   exact ⟨_, .rel d op _ hn (fun e => hne (bytes_ext e))⟩
  ·unfold arrowS at h
   split at h
   ·exact absurd rfl h
   ·rename_i hc
    split at h
    ·exact absurd rfl h
    ·rename_i hd
     have hok : cutOk s (45 : UInt8).toNat = true := by
      cases e : cutOk s 45
      ·exact absurd (Or.inl e) hc
      ·exact e
     have htext := cut_of s 45 hok
     have hz : (cutZ s 45).data.toList = 62 :: ((cutZ s 45).extract 1 (cutZ s 45).size).data.toList := by
      rw [extract_list]
      have hne0 : ¬ (cutZ s 45).size = 0 := fun e => hc (Or.inr (Or.inl e))
      have hb : byteAt (cutZ s 45) 0 = 62 := Classical.not_not.1 fun e => hc (Or.inr (Or.inr e))
      unfold byteAt at hb
      rw [size_len] at hne0
      cases hl : (cutZ s 45).data.toList with
      | nil => rw [hl] at hne0; exact absurd rfl hne0
      | cons x r =>
       rw [hl] at hb
       have : x = 62 := (u8i x 62).1 (by simpa using hb)
       rw [this]; rfl
     have h1 : nameS (cutA s 45) = true := by
      cases e : nameS (cutA s 45)
      ·exact absurd (Or.inl e) hd
      ·rfl
     have h2 : nameS ((cutZ s 45).extract 1 (cutZ s 45).size) = true := by
      cases e : nameS ((cutZ s 45).extract 1 (cutZ s 45).size)
      ·exact absurd (Or.inr (Or.inl e)) hd
      ·rfl
     have h3 : (cutA s 45).data.toList ≠ thisL := fun e => hd (Or.inr (Or.inr (Or.inl (bytes_ext e))))
     have h4 : ((cutZ s 45).extract 1 (cutZ s 45).size).data.toList ≠ thisL := fun e => hd (Or.inr (Or.inr (Or.inr (bytes_ext (by rw [hz, e]; rfl)))))
     have key := Gr.arrow d op _ _ h1 h2 h3 h4
     rw [← hz] at key
     exact ⟨_, (show s.data.toList = (cutA s 45).data.toList ++ 45 :: (cutZ s 45).data.toList from htext) ▸ key⟩
theorem br_text (s : ByteArray) (h0 : byteAt s 0 = 40) (h1 : byteAt s (s.size - 1) = 41) (h2 : 2 < s.size) : s.data.toList = 40 :: ((s.extract 1 (s.size - 1)).data.toList ++ [41]) := by
 have hx : (s.extract 1 (s.size - 1)).data.toList = (s.data.toList.drop 1).take (s.size - 2) := by
  rw [ByteArray.data_extract, Array.toList_extract, List.extract_eq_take_drop]
  rfl
 unfold byteAt at h0 h1
 rw [size_len] at h1 h2 hx
 rw [size_len, hx]
 cases hl : s.data.toList with
 | nil => rw [hl] at h2; simp at h2
 | cons x r =>
  rw [hl] at h0 h1 h2
  have e0 : x = 40 := (u8i x 40).1 (by simpa using h0)
  simp only [List.length_cons] at h1 h2 ⊢
  obtain ⟨k, hk⟩ : ∃ k, r.length = k + 1 := ⟨r.length - 1, by omega⟩
  rw [e0, hk]
  congr 1
  show r = r.take (k + 1 + 1 - 2) ++ [41]
  rw [show k + 1 + 1 - 2 = k by omega]
  have e1 : r.getD k 0 = 41 := by
   rw [hk] at h1
   have : ((x :: r).getD (k + 1 + 1 - 1) 0) = r.getD k 0 := by rw [show k + 1 + 1 - 1 = k + 1 by omega]; rfl
   rw [this] at h1
   exact (u8i _ 41).1 h1
  rw [← e1, ← take_get r k (by omega), ← hk, List.take_length]
theorem way_sound : ∀ (n : Nat) (s : ByteArray) (d : Nat), s.size <= n -> wayS s = true -> dpt d sc0 0 s.data.toList = false -> ∃ op ts, (op = 124 \/ op = 38) /\ Gr true d op s.data.toList ts := by
 intro n
 induction n with
 | zero => intro s d hs hw; rw [wayS, wayF_zero s (by omega)] at hw; cases hw
 | succ n ih =>
  intro s d hs hw hd
  rcases frame_cases s with h | ⟨hng, h0, hon, h⟩
  ·rw [way_flat s (by rw [h]; decide), h] at hw; simp at hw
  ·rcases h with ⟨ha, hap⟩ | ⟨ha, hb0, hb1, hb2, hap⟩ | ⟨ha, hap⟩
   ·rcases last_op s.data.toList sc0 0 (by decide) with hk | ⟨A, op, B, htext, hat, hop, hAd, hO, hN⟩
    ·rw [hk.1] at ha; exact absurd ha (by decide)
    ·have hpos : (scn sc0 0 s.data.toList).a.toNat = A.length := by rw [hat]; omega
     rw [hpos, opS_parts s A B op htext] at hap
     have hisop : (apartS s).is = 124 \/ (apartS s).is = 38 := by
      rw [hap]; rcases hop with rfl | rfl
      ·left; rfl
      ·right; rfl
     rw [way_split s hisop, hap, Bool.and_eq_true] at hw
     dsimp only at hw
     have hsz : A.length + B.length < s.size := by rw [size_len, htext, List.length_append, List.length_cons]; omega
     have hsA : (mk A).size <= n := by rw [size_len, mk_list]; omega
     have hsB : (mk B).size <= n := by rw [size_len, mk_list]; omega
     have hqd : ((scn sc0 0 A).step ((0 + A.length : Nat) : Int) op.toNat).d = 0 := by
      rw [(st_op hop _ _).2 hAd]
     rw [htext, dpt_append, Bool.or_eq_false_iff, dpt, Bool.or_eq_false_iff] at hd
     obtain ⟨opA, tA, hoA, gA⟩ := ih (mk A) d hsA hw.1 (by rw [mk_list]; exact hd.1)
     obtain ⟨opB, tB, hoB, gB⟩ := ih (mk B) d hsB hw.2 (by rw [mk_list, ← hd.2.2]; exact dpt_shift _ _ _ _ _ _ hqd.symm)
     rw [mk_list] at gA gB
     have hfin : scn sc0 0 s.data.toList = scn ((scn sc0 0 A).step ((0 + A.length : Nat) : Int) op.toNat) (0 + A.length + 1) B := by rw [htext, scn_append, scn]
     have hB1 : tB.length = 1 := by
      rcases Nat.lt_or_ge tB.length 2 with hl | hl
      ·have := gB.len.1; omega
      ·exfalso
       have hk := ((gB.scan.top _ (0 + A.length + 1) hqd).2.2.2 hl).1
       rw [← hfin, hat] at hk
       omega
     obtain ⟨t, rfl⟩ : ∃ t, tB = [t] := by
      match tB, hB1 with
      | [t], _ => exact ⟨t, rfl⟩
     have gB1 := (gB.single rfl).anyOp op
     have gA1 : Gr true d op A tA := by
      rcases Nat.lt_or_ge tA.length 2 with hl | hl
      ·exact .one _ _ _ _ ((gA.single (by have := gA.len.1; omega)).anyOp op)
      ·have hk := ((gA.scan.top sc0 0 rfl).2.2.2 hl).2
       have e : opA = op := by
        rcases hoA with rfl | rfl <;> rcases hop with rfl | rfl
        ·rfl
        ·exfalso; apply hon; rw [hO, hN, hk.1, hk.2]; simp
        ·exfalso; apply hon; rw [hO, hN, hk.1, hk.2]; simp
        ·rfl
       rw [← e]; exact gA
     rw [htext]
     exact ⟨op, _, hop, .more _ _ _ _ _ _ hop gA1 gB1⟩
   ·have htext := br_text s hb0 hb1 hb2
    have hw' : wayS (s.extract 1 (s.size - 1)) = true := by rw [← way_same hap]; exact hw
    rw [htext, dpt, Bool.or_eq_false_iff, st40, dpt_append, Bool.or_eq_false_iff] at hd
    have hd1 : 1 <= d := by have := hd.1; simp [sc0] at this; omega
    obtain ⟨e, rfl⟩ : ∃ e, d = e + 1 := ⟨d - 1, by omega⟩
    obtain ⟨op, ts, ho, g⟩ := ih (s.extract 1 (s.size - 1)) e (by simp [ByteArray.size_extract]; omega) hw' (by
     rw [← hd.2.1]
     refine (dpt_up (m := (e : Int)) (k := 1) ?_).symm
     rfl)
    rw [htext]
    exact ⟨124, _, Or.inl rfl, .one _ _ _ _ (.br _ _ _ _ _ g)⟩
   ·have hnx : (plainS s).is ≠ 120 := by
     rw [way_flat s (by rw [hap]; have := plain_is s; omega), hap] at hw
     simpa using hw
    obtain ⟨t, ht⟩ := plain_gr s d 124 hnx
    exact ⟨124, _, Or.inl rfl, .one _ _ _ _ ht⟩
theorem apart_frame (s : ByteArray) (h1 : ngt sc0 0 s.data.toList = false) (h2 : (scn sc0 0 s.data.toList).d = 0) (h3 : ¬ ((scn sc0 0 s.data.toList).o = true /\ (scn sc0 0 s.data.toList).n = true)) (h4 : s.size ≠ 0) :
  apartS s = if 0 <= (scn sc0 0 s.data.toList).a then opS s (scn sc0 0 s.data.toList).a.toNat else if byteAt s 0 = 40 /\ byteAt s (s.size - 1) = 41 /\ 2 < s.size then apartS (s.extract 1 (s.size - 1)) else plainS s := by
 have e : apartS s = frameS s (apartS (s.extract 1 (s.size - 1))) := by
  unfold apartS
  obtain ⟨k, hk⟩ : ∃ k, s.size = k + 1 := ⟨s.size - 1, by omega⟩
  rw [hk, apartF, ← hk]
  rw [apartF_fuel k _ _ (by simp [ByteArray.size_extract]; omega) (Nat.le_refl _)]
 rw [e]
 unfold frameS
 rw [scan_all, neg_all, if_neg (by rw [h1]; decide), if_neg (by rintro (h | h | h); exact h h2; exact h3 h; exact h4 h)]
theorem gr_ne {b d op l ts} (h : Gr b d op l ts) : l ≠ [] := by
 induction h with
 | this => decide
 | rel _ _ _ h1 _ => exact nameL_ne h1
 | arrow => simp
 | br => simp
 | one _ _ _ _ _ ih => exact ih
 | more => simp
theorem apart_one {d op l ts} (h : Gr false d op l ts) : apartS (mk l) = if byteAt (mk l) 0 = 40 /\ byteAt (mk l) ((mk l).size - 1) = 41 /\ 2 < (mk l).size then apartS ((mk l).extract 1 ((mk l).size - 1)) else plainS (mk l) := by
 have hs := h.scan.top sc0 0 rfl
 have e := hs.2.2.1 (h.len.2 rfl)
 rw [apart_frame (mk l) hs.1 hs.2.1 (by rw [mk_list, e]; decide) (by rw [size_len, mk_list]; exact fun e => gr_ne h (List.eq_nil_of_length_eq_zero e))]
 rw [mk_list, e, if_neg (by decide)]
theorem byte0 (c : UInt8) (r : List UInt8) : byteAt (mk (c :: r)) 0 = c.toNat := rfl
theorem head_of {l : List UInt8} (h : l ≠ []) : ∃ c r, l = c :: r := by
 cases l with
 | nil => exact absurd rfl h
 | cons c r => exact ⟨c, r, rfl⟩
theorem apart_plain {d op l ts} (h : Gr false d op l ts) (hq : ∀ x ∈ l, quietB x) : apartS (mk l) = plainS (mk l) := by
 rw [apart_one h]
 obtain ⟨c, r, rfl⟩ := head_of (gr_ne h)
 rw [if_neg]
 rintro ⟨e, -⟩
 rw [byte0] at e
 exact (hq c (by simp)).1 ((u40 c).1 e)
theorem way_complete {b d op l ts} (h : Gr b d op l ts) : wayS (mk l) = true := by
 induction h with
 | this d op =>
  rw [way_flat, apart_plain (.this d op) this_quiet]
  ·rfl
  ·rw [apart_plain (.this d op) this_quiet]; decide
 | rel d op a h1 h2 =>
  have e : plainS (mk a) = ⟨114, mk a, { data := #[] }⟩ := by
   unfold plainS
   rw [if_neg (fun e => h2 (by have := congrArg (fun s => s.data.toList) e; exact this)), if_pos (show nameS (mk a) = true from h1)]
  have e2 := (apart_plain (.rel d op a h1 h2) (name_quiet h1)).trans e
  rw [way_flat _ (by rw [e2]; show ¬ ((114 : Int) = 124 \/ (114 : Int) = 38); decide), e2]; rfl
 | arrow d op a b h1 h2 h3 h4 =>
  have hx : ∀ x ∈ a, x ≠ (45 : UInt8) := noMark_ne (nameL_noMark h1) (by decide)
  obtain ⟨c1, c2, c3⟩ := cut_at (mk (a ++ 45 :: 62 :: b)) a (62 :: b) 45 (mk_list _) hx
  have hn : ¬ nameS (mk (a ++ 45 :: 62 :: b)) = true := fun e => by
   have := nameL_noMark (a := a ++ 45 :: 62 :: b) e 45 (by simp)
   revert this; decide
  have e : (plainS (mk (a ++ 45 :: 62 :: b))).is = 97 := by
   unfold plainS
   rw [if_neg, if_neg hn]
   ·unfold arrowS
    have c1' : cutA (mk (a ++ 45 :: 62 :: b)) 45 = mk a := c1
    have c2' : cutZ (mk (a ++ 45 :: 62 :: b)) 45 = mk (62 :: b) := c2
    have c3' : cutOk (mk (a ++ 45 :: 62 :: b)) 45 = true := c3
    have c4 : (mk (62 :: b)).extract 1 (mk (62 :: b)).size = mk b := eq_mk (by rw [extract_list]; rfl)
    rw [c1', c2', c3', c4, if_neg, if_neg]
    ·rintro (h | h | h | h)
     ·rw [show nameS (mk a) = true from h1] at h; cases h
     ·rw [show nameS (mk b) = true from h2] at h; cases h
     ·exact h3 (congrArg (fun s => s.data.toList) h)
     ·have := congrArg (fun s => s.data.toList) h
      exact h4 (by simpa [mk_list, toThisS, thisL] using this)
    ·rintro (h | h | h)
     ·cases h
     ·rw [size_len, mk_list] at h; simp at h
     ·exact h rfl
   ·intro e
    have := congrArg (fun s => s.data.toList) e
    have h45 : (45 : UInt8) ∈ thisS.data.toList := by rw [← this]; simp [mk_list]
    revert h45; decide
  have e2 := apart_plain (.arrow d op a b h1 h2 h3 h4) (arrow_quiet h1 h2)
  rw [way_flat _ (by rw [e2, e]; decide), e2, e]; rfl
 | br d op op' l ts h1 ih =>
  have hb := apart_one (.br d op op' l ts h1)
  have hl : 1 <= l.length := by
   rcases l with _ | ⟨c, r⟩
   ·exact absurd rfl (gr_ne h1)
   ·simp
  have hsz : (mk (40 :: (l ++ [41]))).size = l.length + 2 := by rw [size_len, mk_list]; simp
  have hx : (mk (40 :: (l ++ [41]))).extract 1 ((mk (40 :: (l ++ [41]))).size - 1) = mk l := by
   refine eq_mk ?_
   rw [ByteArray.data_extract, Array.toList_extract, List.extract_eq_take_drop, mk_list, hsz]
   show (l ++ [41]).take (l.length + 2 - 1 - 1) = l
   rw [show l.length + 2 - 1 - 1 = l.length by omega, List.take_left]
  rw [if_pos ⟨rfl, by
   rw [hsz]; unfold byteAt; rw [mk_list]
   have : (40 :: (l ++ [41])).getD (l.length + 2 - 1) 0 = (41 : UInt8) := by
    rw [show l.length + 2 - 1 = l.length + 1 by omega, List.getD_cons_succ]
    simp
   rw [this]; rfl, by omega⟩, hx] at hb
  rw [way_same hb]; exact ih
 | one d op l ts h1 ih => exact ih
 | more d op l m ts t hop h1 h2 ih1 ih2 =>
  have hs := (Gr.more d op l m ts t hop h1 h2).scan.top sc0 0 rfl
  have h2l : 2 <= (ts ++ [t]).length := by have := h1.len.1; simp; omega
  have hfl := (hs.2.2.2 h2l).2
  have h1s := h1.scan.top sc0 0 rfl
  have hat : (scn sc0 0 (l ++ op :: m)).a = (l.length : Nat) := by
   have e := (st_op hop (scn sc0 0 l) ((0 + l.length : Nat) : Int)).2 h1s.2.1
   have f := (h2.scan.top ⟨0, ((0 + l.length : Nat) : Int), (scn sc0 0 l).o || op == 124, (scn sc0 0 l).n || op == 38⟩ (0 + l.length + 1) rfl).2.2.1 rfl
   rw [scn_append, scn, e, f]; simp
  have hap := apart_frame (mk (l ++ op :: m)) hs.1 hs.2.1 (by
   rw [mk_list, hfl.1, hfl.2]
   rcases hop with rfl | rfl <;> decide) (by rw [size_len, mk_list]; simp)
  rw [mk_list, hat, if_pos (by omega), show ((l.length : Nat) : Int).toNat = l.length by omega, opS_parts _ l m op (mk_list _)] at hap
  rw [way_split _ (by rw [hap]; rcases hop with rfl | rfl; exact Or.inl rfl; exact Or.inr rfl), hap, Bool.and_eq_true]
  exact ⟨ih1, ih2⟩
theorem way_iff (s : ByteArray) : (wayS s = true /\ tooDeep s.data.toList s.size = false) ↔ ∃ op ts, (op = 124 \/ op = 38) /\ Gr true 5 op s.data.toList ts := by
 rw [deep_all]
 constructor
 ·rintro ⟨h1, h2⟩; exact way_sound s.size s 5 (Nat.le_refl _) h1 h2
 ·rintro ⟨op, ts, -, h⟩
  have hs : s = mk s.data.toList := eq_mk rfl
  exact ⟨by rw [hs]; exact way_complete h, h.scan.deep 5 sc0 0 (by decide) (by decide)⟩
end Go.Proofs.YtalmoiogbdahcaaGreat
