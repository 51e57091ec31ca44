import Derived.Test.YtalmoiogbdahcaaGreatXGramA
import Derived.Test.YtalmoiogbdahcaaGreatXWrdE

/- The texts that the program takes for tuples are those of the document, with the same parts. -/
namespace Go.Proofs.YtalmoiogbdahcaaGreat
open Go.RowKit

def mk (l : List UInt8) : ByteArray := ⟨l.toArray⟩
theorem mk_list (l : List UInt8) : (mk l).data.toList = l := rfl
theorem bytes_ext {a b : ByteArray} (h : a.data.toList = b.data.toList) : a = b := ByteArray.ext (Array.ext' h)
theorem eq_mk {a : ByteArray} {l : List UInt8} (h : a.data.toList = l) : a = mk l := bytes_ext (by rw [h, mk_list])
theorem nameL_ne {a : List UInt8} (h : nameL a = true) : a ≠ [] := by
  intro e; subst e; simp [nameL, nameR] at h
theorem nameL_noMark {a : List UInt8} (h : nameL a = true) : noMark a := nameR_noMark 9 a h

theorem name_ok (q : Rd) (a b : List UInt8) (h : q.rest.data.toList = a ++ b) (ha : nameL a = true) (hb : ends b) : nameOf q.rest = mk a ∧ q.name = { q with rest := mk b } := by
  have hn : nl 8 q.rest.data.toList = some a.length := by rw [h]; exact nl_of_name 8 a b hb ha
  have hp : a.length ≠ 0 := fun e => nameL_ne ha (List.eq_nil_of_length_eq_zero e)
  obtain ⟨m, hm⟩ : ∃ m, a.length = m + 1 := ⟨a.length - 1, by omega⟩
  rw [hm] at hn
  constructor
  · unfold nameOf; rw [hn]; dsimp only
    exact eq_mk (by rw [extract_front, h, ← hm, List.take_left])
  · unfold Rd.name; rw [hn]; dsimp only
    have e : q.rest.extract (m + 1) q.rest.size = mk b := eq_mk (by rw [extract_list, h, ← hm, List.drop_left])
    rw [e]
theorem name_cases (q : Rd) : q.name = q.fail ∨ ∃ a b, q.rest.data.toList = a ++ b ∧ nameL a = true ∧ nameOf q.rest = mk a ∧ q.name = { q with rest := mk b } := by
  unfold Rd.name nameOf
  cases hn : nl 8 q.rest.data.toList with
  | none => left; rfl
  | some n =>
    cases n with
    | zero => left; rfl
    | succ n =>
      right
      have hk := name_of_nl 8 _ _ (Nat.le_refl _) hn (fun e => by omega)
      refine ⟨q.rest.data.toList.take (n + 1), q.rest.data.toList.drop (n + 1), (List.take_append_drop _ _).symm, hk.1, ?_, ?_⟩
      · exact eq_mk (extract_front _ _)
      · dsimp only
        have e : q.rest.extract (n + 1) q.rest.size = mk (q.rest.data.toList.drop (n + 1)) := eq_mk (extract_list _ _)
        rw [e]

theorem pre_one (b : List UInt8) (c : UInt8) : preB (mk b) { data := #[c] } = true ↔ ∃ r, b = c :: r := by
  unfold preB
  rw [Lib.toList_data, Lib.toList_data, extract_front, mk_list]
  have hsz : (mk b).size = b.length := by simp [mk, ByteArray.size]
  rw [hsz]
  cases b with
  | nil => simp [ByteArray.size]
  | cons x r =>
    simp only [Bool.and_eq_true, decide_eq_true_eq, beq_iff_eq]
    show (1 ≤ (x :: r).length ∧ (x :: r).take 1 = [c]) ↔ _
    simp
theorem sees_ok (q : Rd) (c : UInt8) (r : List UInt8) (h : q.rest.data.toList = c :: r) : preB q.rest { data := #[c] } = true ∧ q.sees { data := #[c] } = { q with rest := mk r } := by
  have hq : q.rest = mk (c :: r) := eq_mk h
  have hp : preB q.rest { data := #[c] } = true := by rw [hq]; exact (pre_one _ _).2 ⟨r, rfl⟩
  refine ⟨hp, ?_⟩
  unfold Rd.sees; rw [hp]
  have e : q.rest.extract 1 q.rest.size = mk r := eq_mk (by rw [extract_list, h]; rfl)
  show { q with rest := q.rest.extract 1 q.rest.size } = _
  rw [e]
theorem pre_no (q : Rd) (c : UInt8) (h : ¬ ∃ r, q.rest.data.toList = c :: r) : preB q.rest { data := #[c] } = false := by
  cases hp : preB q.rest { data := #[c] }
  · rfl
  · exfalso; apply h
    have hq : q.rest = mk q.rest.data.toList := eq_mk rfl
    rw [hq] at hp
    exact (pre_one _ _).1 hp
theorem must_ok (q : Rd) (c : UInt8) (r : List UInt8) (h : q.rest.data.toList = c :: r) : q.must { data := #[c] } = { q with rest := mk r } := by
  have := sees_ok q c r h
  unfold Rd.must; rw [this.1, this.2]; rfl
theorem must_no (q : Rd) (c : UInt8) (h : ¬ ∃ r, q.rest.data.toList = c :: r) : q.must { data := #[c] } = q.fail := by
  unfold Rd.must; rw [pre_no q c h]; rfl
/-- once failed, for ever. -/
theorem fail_f (q : Rd) : q.fail.failed = true := rfl
theorem sees_f (q : Rd) (m : ByteArray) (h : q.failed = true) : (q.sees m).failed = true := by unfold Rd.sees; split <;> exact h
theorem must_f (q : Rd) (m : ByteArray) (h : q.failed = true) : (q.must m).failed = true := by
  unfold Rd.must; split
  · exact sees_f q m h
  · rfl
theorem name_f (q : Rd) (h : q.failed = true) : q.name.failed = true := by
  unfold Rd.name; split
  · exact h
  · rfl
theorem thing_f (q : Rd) (h : q.failed = true) : q.thing.failed = true := name_f _ (must_f _ _ (name_f _ h))
theorem node_f (q : Rd) (h : q.failed = true) : q.node.failed = true := name_f _ (must_f _ _ (thing_f _ h))
theorem subject_f (q : Rd) (h : q.failed = true) : q.subject.failed = true := by
  unfold Rd.subject; split
  · exact name_f _ (sees_f _ _ (thing_f _ h))
  · exact thing_f _ h
theorem ended_f (q : Rd) (h : q.failed = true) : q.ended = false := by unfold Rd.ended; rw [h]; simp

/-- a name, then a mark. -/
theorem name_must (q : Rd) (c : UInt8) (hm : markB c.toNat = true) :
    (∃ a r, q.rest.data.toList = a ++ c :: r ∧ nameL a = true ∧ nameOf q.rest = mk a ∧ q.name.must { data := #[c] } = { q with rest := mk r }) ∨
    ((¬ ∃ a r, q.rest.data.toList = a ++ c :: r ∧ nameL a = true) ∧ (q.name.must { data := #[c] }).failed = true) := by
  by_cases h : ∃ a r, q.rest.data.toList = a ++ c :: r ∧ nameL a = true
  · left
    obtain ⟨a, r, h1, h2⟩ := h
    obtain ⟨g1, g2⟩ := name_ok q a (c :: r) h1 h2 (Or.inr ⟨c, r, rfl, hm⟩)
    refine ⟨a, r, h1, h2, g1, ?_⟩
    rw [g2, must_ok { q with rest := mk (c :: r) } c r (mk_list _)]
  · right
    refine ⟨h, ?_⟩
    rcases name_cases q with e | ⟨a, b, h1, h2, -, e⟩
    · rw [e]; exact must_f _ _ rfl
    · rw [e]
      by_cases hb : ∃ r, b = c :: r
      · obtain ⟨r, rfl⟩ := hb
        exact absurd ⟨a, r, h1, h2⟩ h
      · rw [must_no { q with rest := mk b } c (by rintro ⟨r, hr⟩; exact hb ⟨r, hr⟩)]; rfl

def otail : Option (List UInt8) → List UInt8
  | none => []
  | some x => 35 :: x
def orel : Option (List UInt8) → ByteArray
  | none => { data := #[] }
  | some x => mk x
/-- the parts of a tuple's text. -/
structure TupD (l k n r k2 n2 : List UInt8) (o : Option (List UInt8)) : Prop where
  text : l = k ++ 58 :: (n ++ 35 :: (r ++ 64 :: (k2 ++ 58 :: (n2 ++ otail o))))
  hk : nameL k = true
  hn : nameL n = true
  hr : nameL r = true
  hk2 : nameL k2 = true
  hn2 : nameL n2 = true
  ho : ∀ x, o = some x → nameL x = true

theorem m58 : markB ((58 : UInt8).toNat : Int) = true := by decide
theorem m35 : markB ((35 : UInt8).toNat : Int) = true := by decide
theorem m64 : markB ((64 : UInt8).toNat : Int) = true := by decide

theorem nm_ok (a b : List UInt8) (c : UInt8) (hm : markB c.toNat = true) (ha : nameL a = true) : nameOf (mk (a ++ c :: b)) = mk a ∧ (Rd.mk (mk (a ++ c :: b)) 0 false).name.must { data := #[c] } = Rd.mk (mk b) 0 false := by
  obtain ⟨g1, g2⟩ := name_ok (Rd.mk (mk (a ++ c :: b)) 0 false) a (c :: b) rfl ha (Or.inr ⟨c, b, rfl, hm⟩)
  refine ⟨g1, ?_⟩
  rw [g2]; exact must_ok (Rd.mk (mk (c :: b)) 0 false) c b rfl
theorem nm_end (a b : List UInt8) (hb : ends b) (ha : nameL a = true) : nameOf (mk (a ++ b)) = mk a ∧ (Rd.mk (mk (a ++ b)) 0 false).name = Rd.mk (mk b) 0 false :=
  name_ok (Rd.mk (mk (a ++ b)) 0 false) a b rfl ha hb
theorem thing_ok (k n b : List UInt8) (hk : nameL k = true) (hn : nameL n = true) (hb : ends b) :
    thingOf (Rd.mk (mk (k ++ 58 :: (n ++ b))) 0 false) = ⟨mk k, mk n, { data := #[] }⟩ ∧ (Rd.mk (mk (k ++ 58 :: (n ++ b))) 0 false).thing = Rd.mk (mk b) 0 false := by
  obtain ⟨a1, a2⟩ := nm_ok k (n ++ b) 58 m58 hk
  obtain ⟨b1, b2⟩ := nm_end n b hb hn
  constructor
  · unfold thingOf; rw [a2]; dsimp only; rw [a1, b1]
  · unfold Rd.thing; rw [a2, b2]
theorem node_ok (k n r b : List UInt8) (hk : nameL k = true) (hn : nameL n = true) (hr : nameL r = true) (hb : ends b) :
    nodeOf (Rd.mk (mk (k ++ 58 :: (n ++ 35 :: (r ++ b)))) 0 false) = ⟨mk k, mk n, mk r⟩ ∧ (Rd.mk (mk (k ++ 58 :: (n ++ 35 :: (r ++ b)))) 0 false).node = Rd.mk (mk b) 0 false := by
  obtain ⟨a1, a2⟩ := thing_ok k n (35 :: (r ++ b)) hk hn (Or.inr ⟨_, _, rfl, m35⟩)
  obtain ⟨b1, b2⟩ := nm_end r b hb hr
  have e : (Rd.mk (mk (35 :: (r ++ b))) 0 false).must { data := #[35] } = Rd.mk (mk (r ++ b)) 0 false := must_ok _ 35 _ rfl
  constructor
  · unfold nodeOf; rw [a1, a2, e]; dsimp only; rw [b1]
  · unfold Rd.node; rw [a2, e, b2]

theorem tup_of (s : ByteArray) (k n r k2 n2 : List UInt8) (o : Option (List UInt8)) (d : TupD s.data.toList k n r k2 n2 o) :
    tupOk s = true ∧ tupNode s = ⟨mk k, mk n, mk r⟩ ∧ tupSubj s = ⟨mk k2, mk n2, orel o⟩ := by
  obtain ⟨ht, hk, hn, hr, hk2, hn2, ho⟩ := d
  have hs : s = mk (k ++ 58 :: (n ++ 35 :: (r ++ 64 :: (k2 ++ 58 :: (n2 ++ otail o))))) := eq_mk ht
  obtain ⟨a1, a2⟩ := node_ok k n r (64 :: (k2 ++ 58 :: (n2 ++ otail o))) hk hn hr (Or.inr ⟨_, _, rfl, m64⟩)
  have e4 : (rd0 s).node.must { data := #[64] } = Rd.mk (mk (k2 ++ 58 :: (n2 ++ otail o))) 0 false := by
    unfold rd0; rw [hs, a2]; exact must_ok (Rd.mk (mk (64 :: (k2 ++ 58 :: (n2 ++ otail o)))) 0 false) 64 _ rfl
  have hnode : tupNode s = ⟨mk k, mk n, mk r⟩ := by unfold tupNode rd0; rw [hs, a1]
  unfold tupOk tupQ tupSubj
  rw [e4]
  cases o with
  | none =>
    obtain ⟨b1, b2⟩ := thing_ok k2 n2 (otail none) hk2 hn2 (Or.inl rfl)
    have hp : preB (mk (otail none)) { data := #[35] } = false := pre_no (Rd.mk (mk []) 0 false) 35 (by rintro ⟨x, hx⟩; cases hx)
    unfold Rd.subject subjectOf
    rw [b2, b1]
    dsimp only
    rw [hp]
    exact ⟨rfl, hnode, rfl⟩
  | some x =>
    obtain ⟨b1, b2⟩ := thing_ok k2 n2 (otail (some x)) hk2 hn2 (Or.inr ⟨_, _, rfl, m35⟩)
    obtain ⟨hp, hse⟩ := sees_ok (Rd.mk (mk (35 :: x)) 0 false) 35 x rfl
    obtain ⟨c1, c2⟩ := nm_end x [] (Or.inl rfl) (ho x rfl)
    rw [List.append_nil] at c1 c2
    have hp' : preB (mk (otail (some x))) { data := #[35] } = true := hp
    have hse' : (Rd.mk (mk (otail (some x))) 0 false).sees { data := #[35] } = Rd.mk (mk x) 0 false := hse
    unfold Rd.subject subjectOf
    rw [b2, b1]
    dsimp only
    rw [hp', hse', c2]
    refine ⟨rfl, hnode, ?_⟩
    simp only [if_true]
    rw [c1]; rfl

/-- the other way: what the program takes has those parts. -/
theorem parts_of (s : ByteArray) (h : tupOk s = true) : ∃ k n r k2 n2 o, TupD s.data.toList k n r k2 n2 o := by
  unfold tupOk tupQ at h
  have hf : ∀ q : Rd, q.ended = true → q.failed = false := by
    intro q hq
    cases e : q.failed
    · rfl
    · rw [ended_f q e] at hq; cases hq
  have h1 := hf _ h
  rcases name_must (rd0 s) 58 m58 with ⟨k, l1, t1, hk, -, e1⟩ | ⟨-, e1⟩
  case inr =>
    have hx : ((rd0 s).node.must { data := #[64] }).subject.failed = true := subject_f _ (must_f _ _ (show (rd0 s).node.failed = true from name_f _ (must_f _ _ (show (rd0 s).thing.failed = true from name_f _ e1))))
    rw [hx] at h1; cases h1
  have w1 : (rd0 s).thing = (Rd.mk (mk l1) 0 false).name := by unfold Rd.thing; rw [e1]; rfl
  rcases name_must (Rd.mk (mk l1) 0 false) 35 m35 with ⟨n, l2, t2, hn, -, e2⟩ | ⟨-, e2⟩
  case inr =>
    have hx : ((rd0 s).node.must { data := #[64] }).subject.failed = true := subject_f _ (must_f _ _ (show (rd0 s).node.failed = true from name_f _ (by rw [w1]; exact e2)))
    rw [hx] at h1; cases h1
  have w2 : (rd0 s).node = (Rd.mk (mk l2) 0 false).name := by unfold Rd.node; rw [w1, e2]
  rcases name_must (Rd.mk (mk l2) 0 false) 64 m64 with ⟨r, l3, t3, hr, -, e3⟩ | ⟨-, e3⟩
  case inr => exact absurd h1 (by rw [subject_f _ (by rw [w2]; exact e3)]; simp)
  rw [w2, e3] at h
  rcases name_must (Rd.mk (mk l3) 0 false) 58 m58 with ⟨k2, l4, t4, hk2, -, e4⟩ | ⟨-, e4⟩
  case inr =>
    exfalso
    have : (Rd.mk (mk l3) 0 false).thing.failed = true := name_f _ e4
    have h2 := hf _ h
    unfold Rd.subject at h2
    split at h2
    · rw [name_f _ (sees_f _ _ this)] at h2; cases h2
    · rw [this] at h2; cases h2
  have w3 : (Rd.mk (mk l3) 0 false).thing = (Rd.mk (mk l4) 0 false).name := by unfold Rd.thing; rw [e4]
  have T : ∀ x, s.data.toList = k ++ 58 :: (n ++ 35 :: (r ++ 64 :: (k2 ++ 58 :: x))) ↔ l4 = x := by
    intro x
    have q1 : s.data.toList = k ++ 58 :: l1 := t1
    have q2 : l1 = n ++ 35 :: l2 := t2
    have q3 : l2 = r ++ 64 :: l3 := t3
    have q4 : l3 = k2 ++ 58 :: l4 := t4
    rw [q1, q2, q3, q4]
    simp
  have hend : ∀ (b : List UInt8), (Rd.mk (mk b) 0 false).ended = true → b = [] := by
    intro b hb
    unfold Rd.ended at hb
    simp only [Bool.not_false, Bool.and_true, decide_eq_true_eq] at hb
    exact List.eq_nil_of_length_eq_zero (by simpa [mk, ByteArray.size] using hb)
  rcases name_cases (Rd.mk (mk l4) 0 false) with e | ⟨n2, b, t5, hn2, -, e⟩
  · exfalso
    have h2 := hf _ h
    unfold Rd.subject at h2
    rw [w3, e] at h2
    split at h2
    · rw [name_f _ (sees_f _ _ rfl)] at h2; cases h2
    · cases h2
  have e' : (Rd.mk (mk l3) 0 false).thing = Rd.mk (mk b) 0 false := by rw [w3, e]
  unfold Rd.subject at h
  rw [e'] at h
  cases hp : preB (mk b) { data := #[35] }
  · dsimp only at h
    rw [hp] at h
    have hb := hend b h
    subst hb
    exact ⟨k, n, r, k2, n2, none, ⟨(T _).2 t5, hk, hn, hr, hk2, hn2, fun x hx => by cases hx⟩⟩
  · obtain ⟨x, rfl⟩ := (pre_one b 35).1 hp
    dsimp only at h
    rw [hp] at h
    have hse := (sees_ok (Rd.mk (mk (35 :: x)) 0 false) 35 x rfl).2
    simp only [if_true] at h
    rw [hse] at h
    rcases name_cases (Rd.mk (mk x) 0 false) with e6 | ⟨a, b', t6, ha, -, e6⟩
    · have h2 := hf _ h
      dsimp only at h2
      rw [e6] at h2; cases h2
    · dsimp only at h
      rw [e6] at h
      have hb := hend b' h
      subst hb
      have t6' : x = a := by have : x = a ++ [] := t6; simpa using this
      have hax : nameL x = true := t6'.symm ▸ ha
      exact ⟨k, n, r, k2, n2, some x, ⟨(T _).2 t5, hk, hn, hr, hk2, hn2, fun y hy => by cases hy; exact hax⟩⟩

/-- the document's cut, at a byte that does not stand ahead. -/
theorem idx_at (a b : List UInt8) (c : UInt8) (h : ∀ x ∈ a, x ≠ c) : idxB (a ++ c :: b) c.toNat = some a.length := by
  have hn : idxB a c.toNat = none := by
    unfold idxB
    rw [List.findIdx?_eq_none_iff]
    intro x hx
    have := h x hx
    rw [beq_eq_false_iff_ne]; intro e
    apply this
    rw [u8_eq]; omega
  rw [idxB_snoc a c b _ hn]; simp
theorem cut_at (s : ByteArray) (a b : List UInt8) (c : UInt8) (h : s.data.toList = a ++ c :: b) (hx : ∀ x ∈ a, x ≠ c) : cutA s c.toNat = mk a ∧ cutZ s c.toNat = mk b ∧ cutOk s c.toNat = true := by
  have hi := idx_at a b c hx
  unfold cutA cutZ cutOk
  rw [h, hi]
  refine ⟨eq_mk ?_, eq_mk ?_, rfl⟩
  · dsimp only; rw [extract_front, h, List.take_left]
  · dsimp only; rw [extract_list, h]; simp
theorem cut_of (s : ByteArray) (c : UInt8) (h : cutOk s c.toNat = true) : s.data.toList = (cutA s c.toNat).data.toList ++ c :: (cutZ s c.toNat).data.toList := by
  unfold cutOk at h
  obtain ⟨i, hi⟩ := Option.isSome_iff_exists.1 h
  have hi2 := hi
  unfold idxB at hi2
  rw [List.findIdx?_eq_some_iff_getElem] at hi2
  obtain ⟨hl, hc, -⟩ := hi2
  have hc' : s.data.toList[i] = c := by
    have h2 : ((s.data.toList[i].toNat : Nat) : Int) = c.toNat := eq_of_beq hc
    rw [u8_eq]; omega
  unfold cutA cutZ
  rw [hi]
  dsimp only
  rw [extract_front, extract_list]
  have := (List.take_append_drop i s.data.toList).symm
  rw [List.drop_eq_getElem_cons hl, hc'] at this
  exact this
theorem noMark_ne {a : List UInt8} {c : UInt8} (h : noMark a) (hc : markB c.toNat = true) : ∀ x ∈ a, x ≠ c := by
  intro x hx e
  subst e
  rw [h x hx] at hc; cases hc

theorem thingS_ok (k n : List UInt8) (hk : nameL k = true) (hn : nameL n = true) : thingS (mk (k ++ 58 :: n)) = true := by
  obtain ⟨a1, a2, a3⟩ := cut_at (mk (k ++ 58 :: n)) k n 58 rfl (noMark_ne (nameL_noMark hk) m58)
  unfold thingS nameS
  change cutA (mk (k ++ 58 :: n)) 58 = _ at a1
  change cutZ (mk (k ++ 58 :: n)) 58 = _ at a2
  change cutOk (mk (k ++ 58 :: n)) 58 = _ at a3
  rw [a1, a2, a3, mk_list, mk_list, hk, hn]; rfl
theorem thingS_parts (s : ByteArray) (h : thingS s = true) : ∃ k n, s.data.toList = k ++ 58 :: n ∧ nameL k = true ∧ nameL n = true := by
  unfold thingS nameS at h
  simp only [Bool.and_eq_true] at h
  exact ⟨_, _, cut_of s 58 h.1.1, h.1.2, h.2⟩
theorem nodeS_ok (k n r : List UInt8) (hk : nameL k = true) (hn : nameL n = true) (hr : nameL r = true) : nodeS (mk (k ++ 58 :: (n ++ 35 :: r))) = true := by
  have hx : ∀ x ∈ k ++ 58 :: n, x ≠ 35 := by
    intro x hx
    rcases List.mem_append.1 hx with h | h
    · exact noMark_ne (nameL_noMark hk) m35 x h
    · rcases List.mem_cons.1 h with h | h
      · rw [h]; decide
      · exact noMark_ne (nameL_noMark hn) m35 x h
  obtain ⟨a1, a2, a3⟩ := cut_at (mk (k ++ 58 :: (n ++ 35 :: r))) (k ++ 58 :: n) r 35 (by rw [mk_list]; simp) hx
  unfold nodeS nameS
  change cutA (mk (k ++ 58 :: (n ++ 35 :: r))) 35 = _ at a1
  change cutZ (mk (k ++ 58 :: (n ++ 35 :: r))) 35 = _ at a2
  change cutOk (mk (k ++ 58 :: (n ++ 35 :: r))) 35 = _ at a3
  rw [a1, a2, a3, mk_list, thingS_ok k n hk hn, hr]; rfl
theorem nodeS_parts (s : ByteArray) (h : nodeS s = true) : ∃ k n r, s.data.toList = k ++ 58 :: (n ++ 35 :: r) ∧ nameL k = true ∧ nameL n = true ∧ nameL r = true := by
  unfold nodeS nameS at h
  simp only [Bool.and_eq_true] at h
  obtain ⟨k, n, t1, hk, hn⟩ := thingS_parts _ h.1.2
  have t2 := cut_of s 35 h.1.1
  change s.data.toList = (cutA s 35).data.toList ++ 35 :: (cutZ s 35).data.toList at t2
  rw [t1] at t2
  exact ⟨k, n, _, by rw [t2]; simp, hk, hn, h.2⟩

theorem tup_cut (s : ByteArray) (k n r k2 n2 : List UInt8) (o : Option (List UInt8)) (d : TupD s.data.toList k n r k2 n2 o) :
    cutA s 64 = mk (k ++ 58 :: (n ++ 35 :: r)) ∧ cutZ s 64 = mk (k2 ++ 58 :: (n2 ++ otail o)) ∧ cutOk s 64 = true := by
  have hx : ∀ x ∈ k ++ 58 :: (n ++ 35 :: r), x ≠ 64 := by
    intro x hx
    rcases List.mem_append.1 hx with h | h
    · exact noMark_ne (nameL_noMark d.hk) m64 x h
    · rcases List.mem_cons.1 h with h | h
      · rw [h]; decide
      · rcases List.mem_append.1 h with h | h
        · exact noMark_ne (nameL_noMark d.hn) m64 x h
        · rcases List.mem_cons.1 h with h | h
          · rw [h]; decide
          · exact noMark_ne (nameL_noMark d.hr) m64 x h
  exact cut_at s (k ++ 58 :: (n ++ 35 :: r)) (k2 ++ 58 :: (n2 ++ otail o)) 64 (by rw [d.text]; simp) hx

theorem tuple_same (s : ByteArray) : tupleS s = tupOk s := by
  rw [Bool.eq_iff_iff]
  constructor
  · intro h
    unfold tupleS at h
    simp only [Bool.and_eq_true, Bool.or_eq_true] at h
    obtain ⟨k, n, r, t1, hk, hn, hr⟩ := nodeS_parts _ h.1.2
    have t2 := cut_of s 64 h.1.1
    change s.data.toList = (cutA s 64).data.toList ++ 64 :: (cutZ s 64).data.toList at t2
    rcases h.2 with h3 | h3
    · obtain ⟨k2, n2, t3, hk2, hn2⟩ := thingS_parts _ h3
      exact (tup_of s k n r k2 n2 none ⟨by rw [t2, t1, t3]; simp [otail], hk, hn, hr, hk2, hn2, fun x hx => by cases hx⟩).1
    · obtain ⟨k2, n2, r2, t3, hk2, hn2, hr2⟩ := nodeS_parts _ h3
      exact (tup_of s k n r k2 n2 (some r2) ⟨by rw [t2, t1, t3]; simp [otail], hk, hn, hr, hk2, hn2, fun x hx => by cases hx; exact hr2⟩).1
  · intro h
    obtain ⟨k, n, r, k2, n2, o, d⟩ := parts_of s h
    obtain ⟨a1, a2, a3⟩ := tup_cut s k n r k2 n2 o d
    unfold tupleS
    rw [a1, a2, a3, nodeS_ok k n r d.hk d.hn d.hr]
    cases o with
    | none =>
      have : thingS (mk (k2 ++ 58 :: (n2 ++ otail none))) = true := by
        show thingS (mk (k2 ++ 58 :: (n2 ++ []))) = true
        rw [List.append_nil]; exact thingS_ok k2 n2 d.hk2 d.hn2
      rw [this]; rfl
    | some x =>
      have : nodeS (mk (k2 ++ 58 :: (n2 ++ otail (some x)))) = true := nodeS_ok k2 n2 x d.hk2 d.hn2 (d.ho x rfl)
      rw [this]; simp

end Go.Proofs.YtalmoiogbdahcaaGreat
