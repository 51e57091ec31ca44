import Derived.Test.YtalmoiogbdahcaaGreatXRefA
import Derived.Test.YtalmoiogbdahcaaGreatXGramB
import Derived.Test.YtalmoiogbdahcaaGreatXRefF

/- Which texts are ways: a grammar, and that the document's reader tells it. -/
namespace Go.Proofs.YtalmoiogbdahcaaGreat
open Go.RowKit

theorem u8i (c e : UInt8) : ((c.toNat : Int) = (e.toNat : Int)) ↔ c = e := by
  constructor
  · intro h; exact UInt8.toNat_inj.1 (Int.ofNat_inj.1 h)
  · intro h; rw [h]
theorem u40 (c : UInt8) : ((c.toNat : Int) = 40) ↔ c = 40 := u8i c 40
theorem u41 (c : UInt8) : ((c.toNat : Int) = 41) ↔ c = 41 := u8i c 41
theorem u124 (c : UInt8) : ((c.toNat : Int) = 124) ↔ c = 124 := u8i c 124
theorem u38 (c : UInt8) : ((c.toNat : Int) = 38) ↔ c = 38 := u8i c 38

def joinT (op : UInt8) : List WayT → WayT
  | [t] => t
  | ts => .mk (if op = 38 then 4 else 3) noneB noneB ts

/-- false: one; true: a way, its sign and its parts; so many brackets at most within one another. -/
inductive Gr : Bool → Nat → UInt8 → List UInt8 → List WayT → Prop
  | this (d op) : Gr false d op thisL [.mk 0 noneB noneB []]
  | rel (d op a) : nameL a = true → a ≠ thisL → Gr false d op a [.mk 1 noneB (mk a) []]
  | arrow (d op a b) : nameL a = true → nameL b = true → a ≠ thisL → b ≠ thisL → Gr false d op (a ++ 45 :: 62 :: b) [.mk 2 (mk a) (mk b) []]
  | br (d op op' l ts) : Gr true d op' l ts → Gr false (d + 1) op (40 :: (l ++ [41])) [joinT op' ts]
  | one (d op l ts) : Gr false d op l ts → Gr true d op l ts
  | more (d op l m ts t) : (op = 124 ∨ op = 38) → Gr true d op l ts → Gr false d op m [t] → Gr true d op (l ++ op :: m) (ts ++ [t])

theorem Gr.len {b d op l ts} (h : Gr b d op l ts) : 1 ≤ ts.length ∧ (b = false → ts.length = 1) := by
  induction h <;> simp_all <;> omega
theorem Gr.anyOp {d op l ts} (h : Gr false d op l ts) (op' : UInt8) : Gr false d op' l ts := by
  cases h with
  | this => exact .this _ _
  | rel _ _ _ h1 h2 => exact .rel _ _ _ h1 h2
  | arrow _ _ _ _ h1 h2 h3 h4 => exact .arrow _ _ _ _ h1 h2 h3 h4
  | br _ _ _ _ _ h1 => exact .br _ _ _ _ _ h1
theorem Gr.single {d op l ts} (h : Gr true d op l ts) (hl : ts.length = 1) : Gr false d op l ts := by
  cases h with
  | one _ _ _ _ h1 => exact h1
  | more _ _ _ _ ts t h1 h2 h3 => have := h2.len.1; simp at hl; subst hl; simp at this
theorem Gr.deeper {b d op l ts} (h : Gr b d op l ts) : ∀ d', d ≤ d' → Gr b d' op l ts := by
  induction h with
  | this => intro d' _; exact .this _ _
  | rel _ _ _ h1 h2 => intro d' _; exact .rel _ _ _ h1 h2
  | arrow _ _ _ _ h1 h2 h3 h4 => intro d' _; exact .arrow _ _ _ _ h1 h2 h3 h4
  | br d _ _ _ _ _ ih =>
    intro d' hd
    obtain ⟨e, rfl⟩ : ∃ e, d' = e + 1 := ⟨d' - 1, by omega⟩
    exact .br _ _ _ _ _ (ih e (by omega))
  | one _ _ _ _ _ ih => intro d' hd; exact .one _ _ _ _ (ih d' hd)
  | more _ _ _ _ _ _ h1 _ _ ih1 ih2 => intro d' hd; exact .more _ _ _ _ _ _ h1 (ih1 d' hd) (ih2 d' hd)

/-- the scan, on from anywhere. -/
def scn (q : Sc) (i : Nat) : List UInt8 → Sc
  | [] => q
  | c :: r => scn (q.step i c.toNat) (i + 1) r
def ngt (q : Sc) (i : Nat) : List UInt8 → Bool
  | [] => false
  | c :: r => decide ((q.step i c.toNat).d < 0) || ngt (q.step i c.toNat) (i + 1) r
def dpt (m : Int) (q : Sc) (i : Nat) : List UInt8 → Bool
  | [] => false
  | c :: r => decide (m < (q.step i c.toNat).d) || dpt m (q.step i c.toNat) (i + 1) r
def sc0 : Sc := ⟨0, -1, false, false⟩
theorem scn_append (q : Sc) (i : Nat) (a b : List UInt8) : scn q i (a ++ b) = scn (scn q i a) (i + a.length) b := by
  induction a generalizing q i with
  | nil => rfl
  | cons c a ih => simp only [List.cons_append, scn, ih, List.length_cons]; congr 1; omega
theorem ngt_append (q : Sc) (i : Nat) (a b : List UInt8) : ngt q i (a ++ b) = (ngt q i a || ngt (scn q i a) (i + a.length) b) := by
  induction a generalizing q i with
  | nil => simp [ngt, scn]
  | cons c a ih =>
    simp only [List.cons_append, scn, ngt, ih, List.length_cons, Bool.or_assoc]
    rw [show i + 1 + a.length = i + (a.length + 1) by omega]
theorem dpt_append (m : Int) (q : Sc) (i : Nat) (a b : List UInt8) : dpt m q i (a ++ b) = (dpt m q i a || dpt m (scn q i a) (i + a.length) b) := by
  induction a generalizing q i with
  | nil => simp [dpt, scn]
  | cons c a ih =>
    simp only [List.cons_append, scn, dpt, ih, List.length_cons, Bool.or_assoc]
    rw [show i + 1 + a.length = i + (a.length + 1) by omega]
theorem take_get (l : List UInt8) (k : Nat) (h : k < l.length) : l.take (k + 1) = l.take k ++ [l.getD k 0] := by
  rw [List.take_succ_eq_append_getElem h, List.getD_eq_getElem?_getD, List.getElem?_eq_getElem h]; rfl
theorem scanK_scn (l : List UInt8) (k : Nat) (h : k ≤ l.length) : scanK l k = scn sc0 0 (l.take k) := by
  induction k with
  | zero => rfl
  | succ k ih =>
    rw [take_get l k (by omega), scn_append, scanK, ih (by omega), List.length_take, Nat.min_eq_left (by omega), Nat.zero_add]; rfl
theorem negK_ngt (l : List UInt8) (k : Nat) (h : k ≤ l.length) : negK l k = ngt sc0 0 (l.take k) := by
  induction k with
  | zero => rfl
  | succ k ih =>
    rw [negK, scanK_scn l (k + 1) h, take_get l k (by omega), ngt_append, ih (by omega), scn_append, List.length_take, Nat.min_eq_left (by omega), Nat.zero_add]
    simp [ngt, scn]
theorem step_d (q : Sc) (i c : Int) : (q.step i c).d = q.d + (if c = 40 then 1 else 0) - (if c = 41 then 1 else 0) := by
  unfold Sc.step
  split
  · rename_i h; subst h; simp
  · split
    · simp
    · split
      · simp
      · split <;> simp
theorem deep_scan (l : List UInt8) (k : Nat) : deepK l k = (scanK l k).d := by
  induction k with
  | zero => rfl
  | succ k ih => rw [deepK, scanK, step_d, ih]
theorem tooDeep_dpt (l : List UInt8) (k : Nat) (h : k ≤ l.length) : tooDeep l k = dpt 5 sc0 0 (l.take k) := by
  induction k with
  | zero => rfl
  | succ k ih =>
    rw [tooDeep, deep_scan, scanK_scn l (k + 1) h, take_get l k (by omega), dpt_append, ih (by omega), scn_append, List.length_take, Nat.min_eq_left (by omega), Nat.zero_add]
    simp [dpt, scn]
theorem dpt_shift (m : Int) (l : List UInt8) : ∀ (q p : Sc) (i j : Nat), q.d = p.d → dpt m q i l = dpt m p j l := by
  induction l with
  | nil => intros; rfl
  | cons c l ih =>
    intro q p i j h
    have e : (q.step i c.toNat).d = (p.step j c.toNat).d := by rw [step_d, step_d, h]
    rw [dpt, dpt, e, ih _ _ (i + 1) (j + 1) e]
theorem dpt_up {m : Int} {l : List UInt8} : ∀ {q p : Sc} {i j : Nat} (k : Int), p.d + k = q.d → dpt (m + k) q i l = dpt m p j l := by
  induction l with
  | nil => intros; rfl
  | cons c l ih =>
    intro q p i j k h
    have e : (p.step j c.toNat).d + k = (q.step i c.toNat).d := by rw [step_d, step_d]; omega
    rw [dpt, dpt, ih k e, ← e]
    congr 1
    simp

/-- bytes that the scan passes by. -/
def quietB (c : UInt8) : Prop := c ≠ 40 ∧ c ≠ 41 ∧ c ≠ 124 ∧ c ≠ 38
theorem step_quiet {c : UInt8} (h : quietB c) (q : Sc) (i : Int) : q.step i c.toNat = q := by
  unfold Sc.step
  rw [if_neg (fun e => h.1 ((u40 c).1 e)), if_neg (fun e => h.2.1 ((u41 c).1 e)), if_neg (fun e => h.2.2.1 ((u124 c).1 e.2)), if_neg (fun e => h.2.2.2 ((u38 c).1 e.2))]
theorem scn_quiet : ∀ (l : List UInt8), (∀ x ∈ l, quietB x) → ∀ q i, 0 ≤ q.d → scn q i l = q ∧ ngt q i l = false ∧ ∀ m, q.d ≤ m → dpt m q i l = false := by
  intro l
  induction l with
  | nil => intros; exact ⟨rfl, rfl, fun _ _ => rfl⟩
  | cons c l ih =>
    intro h q i hq
    have hc := step_quiet (h c (by simp)) q i
    obtain ⟨h1, h2, h3⟩ := ih (fun x hx => h x (by simp [hx])) q (i + 1) hq
    rw [scn, ngt, hc]
    refine ⟨h1, by rw [h2]; simp; omega, fun m hm => ?_⟩
    rw [dpt, hc, h3 m hm]; simp; omega
theorem mark_q {c : UInt8} (h : markB c.toNat = false) : quietB c := by
  refine ⟨?_, ?_, ?_, ?_⟩ <;> (rintro rfl; revert h; decide)
theorem name_quiet {a : List UInt8} (h : nameL a = true) : ∀ x ∈ a, quietB x := fun x hx => mark_q (nameL_noMark h x hx)
theorem this_quiet : ∀ x ∈ thisL, quietB x := by
  intro x hx; simp [thisL] at hx
  rcases hx with rfl | rfl | rfl | rfl <;> (unfold quietB; decide)
theorem arrow_quiet {a b : List UInt8} (ha : nameL a = true) (hb : nameL b = true) : ∀ x ∈ a ++ 45 :: 62 :: b, quietB x := by
  intro x hx
  simp only [List.mem_append, List.mem_cons] at hx
  rcases hx with h | rfl | rfl | h
  · exact name_quiet ha x h
  · unfold quietB; decide
  · unfold quietB; decide
  · exact name_quiet hb x h

theorem st40 (q : Sc) (i : Int) : q.step i (((40 : UInt8).toNat : Nat) : Int) = { q with d := q.d + 1 } := rfl
theorem st41 (q : Sc) (i : Int) : q.step i (((41 : UInt8).toNat : Nat) : Int) = { q with d := q.d - 1 } := rfl
theorem st_op {op : UInt8} (h : op = 124 ∨ op = 38) (q : Sc) (i : Int) : (q.d ≠ 0 → q.step i op.toNat = q) ∧ (q.d = 0 → q.step i op.toNat = ⟨0, i, q.o || op == 124, q.n || op == 38⟩) := by
  obtain ⟨d, a, o, n⟩ := q
  rcases h with rfl | rfl
  · refine ⟨fun hd => ?_, fun hd => ?_⟩
    · exact step_else d a o n i _ (by decide) (by decide) (fun e => hd e.1) (fun e => hd e.1)
    · dsimp only at hd; subst hd; rw [show (((124 : UInt8).toNat : Nat) : Int) = 124 by rfl, step124]; simp
  · refine ⟨fun hd => ?_, fun hd => ?_⟩
    · exact step_else d a o n i _ (by decide) (by decide) (fun e => hd e.1) (fun e => hd e.1)
    · dsimp only at hd; subst hd; rw [show (((38 : UInt8).toNat : Nat) : Int) = 38 by rfl, step38]; simp

/-- the scan over what the grammar takes. -/
structure ScanOk (b : Bool) (d : Nat) (op : UInt8) (l : List UInt8) (ts : List WayT) : Prop where
  inside : ∀ (q : Sc) (i : Nat), 0 < q.d → scn q i l = q ∧ ngt q i l = false
  top : ∀ (q : Sc) (i : Nat), q.d = 0 → ngt q i l = false ∧ (scn q i l).d = 0 ∧ (ts.length = 1 → scn q i l = q) ∧ (2 ≤ ts.length → (i : Int) ≤ (scn q i l).a ∧ (scn q i l).o = (q.o || op == 124) ∧ (scn q i l).n = (q.n || op == 38))
  deep : ∀ (m : Int) (q : Sc) (i : Nat), 0 ≤ q.d → q.d + (d : Int) ≤ m → dpt m q i l = false
theorem ScanOk.one {b : Bool} {d : Nat} {op : UInt8} {l : List UInt8} {ts : List WayT} (hl : ts.length = 1) (h : ∀ (q : Sc) (i : Nat), 0 ≤ q.d → scn q i l = q ∧ ngt q i l = false ∧ ∀ m : Int, q.d + (d : Int) ≤ m → dpt m q i l = false) : ScanOk b d op l ts := by
  refine ⟨fun q i hq => ⟨(h q i (by omega)).1, (h q i (by omega)).2.1⟩, fun q i hq => ?_, fun m q i h1 h2 => (h q i h1).2.2 m h2⟩
  obtain ⟨h1, h2, -⟩ := h q i (by omega)
  exact ⟨h2, by rw [h1]; exact hq, fun _ => h1, fun e => by omega⟩
theorem Gr.scan {b d op l ts} (h : Gr b d op l ts) : ScanOk b d op l ts := by
  induction h with
  | this => exact .one rfl fun q i hq => ⟨(scn_quiet _ this_quiet q i hq).1, (scn_quiet _ this_quiet q i hq).2.1, fun m hm => (scn_quiet _ this_quiet q i hq).2.2 m (by omega)⟩
  | rel d op a h1 h2 =>
    have hq := scn_quiet _ (name_quiet h1)
    exact .one rfl fun q i h0 => ⟨(hq q i h0).1, (hq q i h0).2.1, fun m hm => (hq q i h0).2.2 m (by omega)⟩
  | arrow d op a b h1 h2 h3 h4 =>
    have hq := scn_quiet _ (arrow_quiet h1 h2)
    exact .one rfl fun q i h0 => ⟨(hq q i h0).1, (hq q i h0).2.1, fun m hm => (hq q i h0).2.2 m (by omega)⟩
  | br d op op' l ts h1 ih =>
    refine .one rfl fun q i hq => ?_
    have hi := ih.inside { q with d := q.d + 1 } (i + 1) (by dsimp only; omega)
    have hd := fun m hm => ih.deep m { q with d := q.d + 1 } (i + 1) (by dsimp only; omega) hm
    refine ⟨?_, ?_, fun m hm => ?_⟩
    · rw [scn, st40, scn_append, hi.1, scn, scn, st41]; simp
    · rw [ngt, st40, ngt_append, hi.1, hi.2, ngt, ngt, st41]; simp; omega
    · rw [dpt, st40, dpt_append, hi.1, hd m (by dsimp only; omega), dpt, dpt, st41]; simp; omega
  | one d op l ts h1 ih => exact ⟨ih.inside, ih.top, ih.deep⟩
  | more d op l m ts t hop h1 h2 ih1 ih2 =>
    have hlen := h1.len.1
    refine ⟨fun q i hq => ?_, fun q i hq => ?_, fun mm q i h0 hm => ?_⟩
    · have e := (st_op hop q ((i + l.length : Nat) : Int)).1 (by omega)
      rw [scn_append, ngt_append, (ih1.inside q i hq).1, (ih1.inside q i hq).2, scn, ngt, e, (ih2.inside q _ hq).1, (ih2.inside q _ hq).2]
      simp; omega
    · obtain ⟨g1, g2, g3, g4⟩ := ih1.top q i hq
      have e := (st_op hop (scn q i l) ((i + l.length : Nat) : Int)).2 g2
      have f := ih2.top ⟨0, ((i + l.length : Nat) : Int), (scn q i l).o || op == 124, (scn q i l).n || op == 38⟩ (i + l.length + 1) rfl
      have fe := f.2.2.1 rfl
      rw [scn_append, ngt_append, g1, scn, ngt, e, fe, f.1]
      refine ⟨by simp, rfl, fun hl => by simp at hl; subst hl; simp at hlen, fun _ => ⟨by show (i : Int) ≤ ((i + l.length : Nat) : Int); omega, ?_, ?_⟩⟩
      · show ((scn q i l).o || op == 124) = _
        rcases Nat.lt_or_ge ts.length 2 with h | h
        · rw [g3 (by omega)]
        · rw [(g4 h).2.1, Bool.or_assoc, Bool.or_self]
      · show ((scn q i l).n || op == 38) = _
        rcases Nat.lt_or_ge ts.length 2 with h | h
        · rw [g3 (by omega)]
        · rw [(g4 h).2.2, Bool.or_assoc, Bool.or_self]
    · have hd : (scn q i l).d = q.d := by
        rcases Int.lt_or_eq_of_le h0 with h | h
        · rw [(ih1.inside q i h).1]
        · rw [(ih1.top q i h.symm).2.1]; exact h
      have hs : ((scn q i l).step ((i + l.length : Nat) : Int) op.toNat).d = q.d := by
        rw [step_d, hd]
        rcases hop with rfl | rfl <;> simp
      rw [dpt_append, ih1.deep mm q i h0 hm, dpt, hs, ih2.deep mm _ _ (by rw [hs]; exact h0) (by rw [hs]; exact hm)]
      simp; omega

end Go.Proofs.YtalmoiogbdahcaaGreat
