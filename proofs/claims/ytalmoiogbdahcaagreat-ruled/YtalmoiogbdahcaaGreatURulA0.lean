import Derived.Test.YtalmoiogbdahcaaGreatVKrlA
import Derived.Test.YtalmoiogbdahcaaGreatYGhE
import Derived.Deep.CutRange
namespace Go.Proofs.YtalmoiogbdahcaaGreat
set_option maxRecDepth 100000
set_option maxHeartbeats 8000000
open Go.RowKit
set_option maxRecDepth 100000
theorem kr_parent (n : ByteArray) : ruleN krules ⟨docB, n, parentB⟩ = thisW := by kernel_rfl
theorem kr_editor (n : ByteArray) : ruleN krules ⟨docB, n, editorB⟩ = .mk 4 noneB noneB [.mk 1 noneB readerB [], .mk 1 noneB trustedB []] := by kernel_rfl
theorem kr_both (n : ByteArray) : ruleN krules ⟨docB, n, bothB⟩ = .mk 4 noneB noneB [.mk 3 noneB noneB [.mk 1 noneB ownerB [], .mk 1 noneB trustedB []], .mk 3 noneB noneB [thisW, .mk 1 noneB readerB []]] := by kernel_rfl
open Go.RowKit Go.Shelf
def dN (a : Nat) (r : ByteArray) : Nod := ⟨docB, letS a, r⟩
def zN : Nod := ⟨userB, zB, noneB⟩
theorem rel_ne {r : ByteArray} (h : r ≠ noneB) (a : Nat) : (dN a r).isTh = false := decide_eq_false h
theorem told_rel {ts : List (Nod × Nod)} {P : Nod -> Prop} {x : Nod} {r : ByteArray} : toldW ts P x (.mk 1 noneB r []) ↔ P (x.to r) := by
 rw [toldX_leaf (by decide) (by decide)]
 have e : namedW ts x (.mk 1 noneB r []) = [x.to r] := by simp [namedW, isLeaf, leafW]
 rw [e]; simp
theorem told_this {ts : List (Nod × Nod)} {P : Nod -> Prop} {x : Nod} : toldW ts P x thisW ↔ ∃ y ∈ subsOf ts x, P y := by
 unfold thisW
 rw [toldX_leaf (by decide) (by decide)]
 have e : namedW ts x (.mk 0 noneB noneB []) = subsOf ts x := by simp [namedW, isLeaf, leafW]
 rw [e]
theorem told_arrow {ts : List (Nod × Nod)} {P : Nod -> Prop} {x : Nod} {a b : ByteArray} : toldW ts P x (.mk 2 a b []) ↔ ∃ y ∈ subsOf ts (x.to a), y.isTh = true /\ P (y.to b) := by
 rw [toldX_leaf (by decide) (by decide)]
 have e : namedW ts x (.mk 2 a b []) = ((subsOf ts (x.to a)).filter (·.isTh)).map (·.to b) := by simp [namedW, isLeaf, leafW]
 rw [e]
 constructor
 ·rintro ⟨y, hy, hp⟩
  obtain ⟨z, hz, rfl⟩ := List.mem_map.1 hy
  obtain ⟨h1, h2⟩ := List.mem_filter.1 hz
  exact ⟨z, h1, h2, hp⟩
 ·rintro ⟨z, h1, h2, hp⟩
  exact ⟨z.to b, List.mem_map.2 ⟨z, List.mem_filter.2 ⟨h1, h2⟩, rfl⟩, hp⟩
theorem in_node {u : Nod} {P : Nod -> Prop} {y : Nod} (h : y.isTh = false) : inU u P y ↔ P y := by
 unfold inU; rw [if_neg (by rw [h]; decide)]
theorem in_thing {u : Nod} {P : Nod -> Prop} {y : Nod} (h : y.isTh = true) : inU u P y ↔ y = u := by
 unfold inU; rw [if_pos h]
theorem std_reader {ts : List (Nod × Nod)} {u : Nod} (a : Nat) : Std ts (ruleN krules) u (dN a readerB) ↔ (∃ y ∈ subsOf ts (dN a readerB), inU u (Std ts (ruleN krules) u) y) \/ Std ts (ruleN krules) u (dN a ownerB) \/ ∃ p ∈ subsOf ts (dN a parentB), p.isTh = true /\ Std ts (ruleN krules) u (p.to readerB) := by
 rw [Std.iff, show ruleN krules (dN a readerB) = _ from kr_reader (letS a), toldW, if_pos rfl, toldO, toldO, toldO, toldO, told_this, told_rel, told_arrow, in_node (show ((dN a readerB).to ownerB).isTh = false from rel_ne (by decide +kernel) a)]
 have e : ∀ p : Nod, inU u (Std ts (ruleN krules) u) (p.to readerB) ↔ Std ts (ruleN krules) u (p.to readerB) := fun p => in_node (decide_eq_false (show readerB ≠ noneB by decide +kernel))
 simp only [e, or_false]
 exact Iff.rfl
theorem std_editor {ts : List (Nod × Nod)} {u : Nod} (a : Nat) : Std ts (ruleN krules) u (dN a editorB) ↔ Std ts (ruleN krules) u (dN a readerB) /\ Std ts (ruleN krules) u (dN a trustedB) := by
 rw [Std.iff, show ruleN krules (dN a editorB) = _ from kr_editor (letS a), toldW, if_neg (by decide), if_pos rfl, toldA, toldA, toldA, told_rel, told_rel, in_node (show ((dN a editorB).to readerB).isTh = false from rel_ne (by decide +kernel) a), in_node (show ((dN a editorB).to trustedB).isTh = false from rel_ne (by decide +kernel) a)]
 simp only [and_true]
 exact Iff.rfl
theorem std_both {ts : List (Nod × Nod)} {u : Nod} (a : Nat) : Std ts (ruleN krules) u (dN a bothB) ↔ (Std ts (ruleN krules) u (dN a ownerB) \/ Std ts (ruleN krules) u (dN a trustedB)) /\ ((∃ y ∈ subsOf ts (dN a bothB), inU u (Std ts (ruleN krules) u) y) \/ Std ts (ruleN krules) u (dN a readerB)) := by
 rw [Std.iff, show ruleN krules (dN a bothB) = _ from kr_both (letS a), toldW, if_neg (by decide), if_pos rfl, toldA, toldA, toldA, toldW, if_pos rfl, toldW, if_pos rfl, toldO, toldO, toldO, toldO, toldO, toldO, told_rel, told_rel, told_rel, told_this, in_node (show ((dN a bothB).to ownerB).isTh = false from rel_ne (by decide +kernel) a), in_node (show ((dN a bothB).to trustedB).isTh = false from rel_ne (by decide +kernel) a), in_node (show ((dN a bothB).to readerB).isTh = false from rel_ne (by decide +kernel) a)]
 simp only [and_true, or_false]
 exact Iff.rfl
theorem dN_z : ∀ a, a < 4 -> ∀ r ∈ [parentB, readerB, ownerB, trustedB, bothB], dN a r ≠ ⟨docB, zB, readerB⟩ /\ dN a r ≠ ⟨groupB, zB, memberB⟩ := by decide +kernel
def kRelN (k : Nat) : ByteArray := if k = 4 then parentB else if k = 5 then readerB else if k = 6 then ownerB else if k = 7 then trustedB else bothB
theorem kRelN_inj : ∀ k, k < 9 -> 4 <= k -> ∀ k', k' < 9 -> 4 <= k' -> kRelN k = kRelN k' -> k = k' := by decide +kernel
theorem kRelN_mem : ∀ k, k < 9 -> 4 <= k -> kRelN k ∈ [parentB, readerB, ownerB, trustedB, bothB] := by
 intro k h1 h2
 have h : k = 4 \/ k = 5 \/ k = 6 \/ k = 7 \/ k = 8 := by omega
 rcases h with rfl | rfl | rfl | rfl | rfl <;> simp [kRelN]
theorem ruled_subs {l now : List ByteArray} (h : HeldT l now) {a k : Nat} (ha : a < 4) (hk : 4 <= k) (hk9 : k < 9) (y : Nod) : y ∈ subsOf (tsOf now) (dN a (kRelN k)) ↔ ∃ b, b < 4 /\ y = kSubj k b /\ kT k a b ∈ l := by
 rw [mem_subsOf]
 constructor
 ·intro hy
  obtain ⟨s, hs, e⟩ := List.mem_map.1 hy
  rcases (h.mem s).1 hs with hs | hs
  ·have h0 : tpOf s ∈ tsOf know0 := List.mem_map.2 ⟨s, hs, rfl⟩
   rw [e, know0_ts] at h0
   simp only [List.mem_cons, Prod.mk.injEq, List.not_mem_nil, or_false] at h0
   obtain ⟨z1, z2⟩ := dN_z a ha (kRelN k) (kRelN_mem k hk9 hk)
   rcases h0 with ⟨e1, -⟩ | ⟨e1, -⟩
   ·exact absurd e1 z1
   ·exact absurd e1 z2
  ·obtain ⟨k', a', b', hk', rfl⟩ := h.ks s hs
   rw [kT_tp k' a' b' hk'] at e
   injection e with e1 e2
   have hk3 : ¬ k' <= 3 := by
    intro hn
    unfold kNode at e1
    rw [if_pos hn] at e1
    have := congrArg Nod.k e1
    revert this
    show groupB = docB -> False
    decide +kernel
   unfold kNode at e1
   rw [if_neg hk3] at e1
   have er : kRelN k' = kRelN k := congrArg Nod.r e1
   have ek := kRelN_inj k' hk' (by omega) k hk9 hk er
   subst ek
   have el : letS (a' % 4) = letS a := by rw [← letS_mod]; exact congrArg Nod.n e1
   have ea := letS_inj _ (by omega) a ha el
   rw [kT_mod, ea] at hs
   exact ⟨b' % 4, by omega, by rw [← kSubj_mod]; exact e2.symm, hs⟩
 ·rintro ⟨b, hb, rfl, hl⟩
  refine List.mem_map.2 ⟨kT k a b, (h.mem _).2 (Or.inr hl), ?_⟩
  rw [kT_tp k a b hk9]
  have : kNode k a = dN a (kRelN k) := by unfold kNode dN; rw [if_neg (by omega)]; rfl
  rw [this]
theorem zN_nm : NmN zN userB.data.toList zB.data.toList none := by
 refine ⟨?_, by decide +kernel, by decide +kernel, fun r hr => by cases hr⟩
 show zN = ⟨mk userB.data.toList, mk zB.data.toList, noneB⟩
 rw [mk_data, mk_data]; rfl
theorem mem_who {now : List ByteArray} (ht : ∀ s ∈ now, tupOk s = true) {zs : List ByteArray} {n : Nod} (hz : ∀ z, z ∈ zs ↔ ∃ u', InN (tsOf now) krules u' n /\ thT u' = z) {u : Nod} {ku nu : List UInt8} (hu : NmN u ku nu none) : thT u ∈ zs ↔ InN (tsOf now) krules u n := by
 rw [hz]
 constructor
 ·rintro ⟨u', hi, e⟩
  have hi2 := hi
  obtain ⟨h1, ⟨t, h2, h3⟩, -⟩ := hi
  obtain ⟨s, hs, rfl⟩ := List.mem_map.1 h2
  obtain ⟨k, n', o, hn⟩ := (tup_txt (ht s hs)).2.1
  rw [h3] at hn
  have hth : u.isTh = true := (nmN_th hu).2 rfl
  have e2 : u' = u := nmN_inj hn hu (by
   unfold txT
   rw [if_pos h1, if_pos hth]; exact e)
  rw [← e2]; exact hi2
 ·intro hi; exact ⟨u, hi, rfl⟩
theorem ruled_reader {l now : List ByteArray} (h : HeldT l now) {a : Nat} (ha : a < 4) (u : Nod) : InN (tsOf now) krules u (dN a readerB) ↔ InN (tsOf now) krules u (dN a ownerB) \/ (∃ b, b < 4 /\ kT 4 a b ∈ l /\ InN (tsOf now) krules u (dN b readerB)) \/ ∃ b, b < 4 /\ kT 5 a b ∈ l /\ InN (tsOf now) krules u (gN b) := by
 unfold InN
 rw [std_reader]
 constructor
 ·rintro ⟨h1, h2, ⟨y, hy, hi⟩ | hs | ⟨p, hp, hth, hs⟩⟩
  ·obtain ⟨b, hb, rfl, hl⟩ := (ruled_subs h ha (k := 5) (by omega) (by omega) y).1 hy
   exact Or.inr (Or.inr ⟨b, hb, hl, h1, h2, (in_node (gN_node b)).1 hi⟩)
  ·exact Or.inl ⟨h1, h2, hs⟩
  ·obtain ⟨b, hb, rfl, hl⟩ := (ruled_subs h ha (k := 4) (by omega) (by omega) p).1 hp
   exact Or.inr (Or.inl ⟨b, hb, hl, h1, h2, hs⟩)
 ·rintro (⟨h1, h2, hs⟩ | ⟨b, hb, hl, h1, h2, hs⟩ | ⟨b, hb, hl, h1, h2, hs⟩)
  ·exact ⟨h1, h2, Or.inr (Or.inl hs)⟩
  ·exact ⟨h1, h2, Or.inr (Or.inr ⟨kSubj 4 b, (ruled_subs h ha (k := 4) (by omega) (by omega) _).2 ⟨b, hb, rfl, hl⟩, rfl, hs⟩)⟩
  ·exact ⟨h1, h2, Or.inl ⟨kSubj 5 b, (ruled_subs h ha (k := 5) (by omega) (by omega) _).2 ⟨b, hb, rfl, hl⟩, (in_node (gN_node b)).2 hs⟩⟩
theorem ruled_parent {l now : List ByteArray} (h : HeldT l now) {a : Nat} (ha : a < 4) (p : Nod) : InN (tsOf now) krules p (dN a parentB) ↔ ∃ b, b < 4 /\ p = ⟨docB, letS b, noneB⟩ /\ kT 4 a b ∈ l := by
 unfold InN
 rw [std_this (x := dN a parentB) (kr_parent (letS a))]
 constructor
 ·rintro ⟨h1, h2, y, hy, hi⟩
  obtain ⟨b, hb, rfl, hl⟩ := (ruled_subs h ha (k := 4) (by omega) (by omega) y).1 hy
  exact ⟨b, hb, ((in_thing rfl).1 hi).symm, hl⟩
 ·rintro ⟨b, hb, rfl, hl⟩
  have hm := (ruled_subs h ha (k := 4) (by omega) (by omega) (kSubj 4 b)).2 ⟨b, hb, rfl, hl⟩
  exact ⟨rfl, ⟨_, mem_subsOf.1 hm, rfl⟩, kSubj 4 b, hm, (in_thing rfl).2 rfl⟩
theorem ruled_editor {now : List ByteArray} (a : Nat) (u : Nod) : InN (tsOf now) krules u (dN a editorB) ↔ InN (tsOf now) krules u (dN a readerB) /\ InN (tsOf now) krules u (dN a trustedB) := by
 unfold InN
 rw [std_editor]
 constructor
 ·rintro ⟨h1, h2, h3, h4⟩; exact ⟨⟨h1, h2, h3⟩, h1, h2, h4⟩
 ·rintro ⟨⟨h1, h2, h3⟩, -, -, h4⟩; exact ⟨h1, h2, h3, h4⟩
theorem ruled_both {l now : List ByteArray} (h : HeldT l now) {a : Nat} (ha : a < 4) (u : Nod) : InN (tsOf now) krules u (dN a bothB) ↔ (InN (tsOf now) krules u (dN a ownerB) \/ InN (tsOf now) krules u (dN a trustedB)) /\ ((∃ b, b < 4 /\ u = uN b /\ kT 8 a b ∈ l) \/ InN (tsOf now) krules u (dN a readerB)) := by
 unfold InN
 rw [std_both]
 constructor
 ·rintro ⟨h1, h2, h3, h4⟩
  refine ⟨h3.imp (fun x => ⟨h1, h2, x⟩) (fun x => ⟨h1, h2, x⟩), ?_⟩
  rcases h4 with ⟨y, hy, hi⟩ | hs
  ·obtain ⟨b, hb, rfl, hl⟩ := (ruled_subs h ha (k := 8) (by omega) (by omega) y).1 hy
   exact Or.inl ⟨b, hb, ((in_thing rfl).1 hi).symm, hl⟩
  ·exact Or.inr ⟨h1, h2, hs⟩
 ·rintro ⟨h3, h4⟩
  have h12 : u.isTh = true /\ ∃ t ∈ tsOf now, t.2 = u := by
   rcases h3 with ⟨h1, h2, -⟩ | ⟨h1, h2, -⟩
   ·exact ⟨h1, h2⟩
   ·exact ⟨h1, h2⟩
  refine ⟨h12.1, h12.2, h3.imp (fun x => x.2.2) (fun x => x.2.2), ?_⟩
  rcases h4 with ⟨b, hb, rfl, hl⟩ | ⟨-, -, hs⟩
  ·exact Or.inl ⟨kSubj 8 b, (ruled_subs h ha (k := 8) (by omega) (by omega) _).2 ⟨b, hb, rfl, hl⟩, (in_thing rfl).2 rfl⟩
  ·exact Or.inr hs
def dTx (a : Nat) (s : ByteArray) : ByteArray := ⟨#[100, 111, 99, 58]⟩ ++ letS a ++ s
structure RelS (r s : ByteArray) : Prop where
 nm : nameL r.data.toList = true
 s : s.data.toList = 35 :: r.data.toList
 has : hasR krules (dN 0 r) = true
theorem relS_reader : RelS readerB ⟨#[35, 114, 101, 97, 100, 101, 114]⟩ := ⟨by decide +kernel, rfl, by decide +kernel⟩
theorem relS_owner : RelS ownerB ⟨#[35, 111, 119, 110, 101, 114]⟩ := ⟨by decide +kernel, rfl, by decide +kernel⟩
theorem relS_trusted : RelS trustedB ⟨#[35, 116, 114, 117, 115, 116, 101, 100]⟩ := ⟨by decide +kernel, rfl, by decide +kernel⟩
theorem relS_editor : RelS editorB ⟨#[35, 101, 100, 105, 116, 111, 114]⟩ := ⟨by decide +kernel, rfl, by decide +kernel⟩
theorem relS_both : RelS bothB ⟨#[35, 98, 111, 116, 104]⟩ := ⟨by decide +kernel, rfl, by decide +kernel⟩
theorem relS_parent : RelS parentB ⟨#[35, 112, 97, 114, 101, 110, 116]⟩ := ⟨by decide +kernel, rfl, by decide +kernel⟩
theorem dTx_que {r s : ByteArray} (h : RelS r s) (a : Nat) : queOk (dTx a s) = true /\ queC (dTx a s) = false /\ queX (dTx a s) = dN a r /\ hasR krules (queX (dTx a s)) = true /\ (dTx a s).size <= maxLen := by
 have hn := dN_nm h.nm a
 have ht : (dTx a s).data.toList = docB.data.toList ++ 58 :: ((letS a).data.toList ++ 35 :: r.data.toList) := by
  simp [dTx, docB, h.s]
 obtain ⟨h1, h2, h3, -⟩ := que_no hn.hk hn.hn (hn.ho _ rfl) ht
 have hx : queX (dTx a s) = dN a r := by rw [h3]; exact hn.e.symm
 refine ⟨h1, h2, hx, ?_, ?_⟩
 ·rw [hx]
  have e : hasR krules (dN a r) = hasR krules (dN 0 r) := rfl
  rw [e]; exact h.has
 ·have e : (dTx a s).size = (dTx a s).data.toList.length := by rw [Array.length_toList]; rfl
  rw [e, ht]
  have a1 := nameL_len hn.hk
  have a2 := nameL_len hn.hn
  have a3 := nameL_len (hn.ho _ rfl)
  have := big_max
  simp only [List.length_append, List.length_cons]
  omega
def WhoRu (now : List ByteArray) (n : Nod) (zs : List ByteArray) : Prop := Sorted zs /\ zs.length <= 50 /\ ∀ z, z ∈ zs ↔ ∃ u, InN (tsOf now) krules u n /\ thT u = z
theorem r_who (HN : Hid NodeC) (HW : Hid TWayC) {W : World} {gb : Nat} {n : Int} {now : List ByteArray} {w : World} (h : GSt W gb n now w) {q : ByteArray} {x : Nod} (hq : queOk q = true /\ queC q = false /\ queX q = x /\ hasR krules (queX q) = true /\ q.size <= maxLen) :
  Calls Tryz.prog 19 #[.pointer (some ⟨gb, 0, none⟩), .string q] w fun e w' => ∃ o c zs, e = .returned (.tuple #[.slice o zs.length c, .bool true]) /\ Below w.heap.size w w' /\ WhoRu now x zs /\ w'.ownsRow w.heap.size 9 1 (.slice o zs.length c) zs.length (strV zs) := by
 obtain ⟨q1, q2, q3, q4, q5⟩ := hq
 obtain ⟨g, m, lo, hv, kg⟩ := h.kg
 refine (kWho_any (expand_any HN HW (kg.gate q q5) q q5 (fun h _ => queOk_of h krules now) (que_sizesK q q5))).mono ?_
 rintro e w' ⟨o, n, c, er, rfl, hb, he, zs, rfl, hso, hzl, hown, hz⟩
 have e0 : er = 0 := by rw [he, q1, q2, q4]; rfl
 subst e0
 rw [if_pos rfl, q3] at hz
 exact ⟨o, c, zs, rfl, hb, ⟨hso, hzl, hz⟩, hown⟩
theorem r_open (HN : Hid NodeC) (HW : Hid TWayC) (W : World) : Calls Tryz.prog 14 #[.int .i64 1, .int .i64 1] W fun e w' => ∃ gb, e = .returned (.pointer (some ⟨gb, 0, none⟩)) /\ GSt W gb 1 know0 w' := by
 refine (kOpen_any HN HW W 1 1 (by decide) (by decide) (by decide) (by decide)).mono ?_
 rintro e w' ⟨gb, g, m, lo, rfl, hb, hv, kg⟩
 exact ⟨gb, rfl, ⟨g, m, lo, by omega, kg⟩, hb⟩
theorem r_put {W : World} {rv : Value} {cs : List Int} (hr : IntsAt W rv cs) (hcs : ∀ c ∈ cs, -9223372036854775808 <= c /\ c <= 9223372036854775807) (hl : cs.length <= 9223372036854775807) {gb : Nat} {w1 : World} (h : GSt W gb 1 know0 w1) :
  Calls Tryz.prog 15 #[.pointer (some ⟨gb, 0, none⟩), rv, .int .i64 30] w1 fun e wP => ∃ o c, e = .returned (.tuple #[.slice o (putL cs 30).length c, .bool true]) /\ GSt W gb 31 (putN know0 (putL cs 30)) wP /\ StrT wP (.slice o (putL cs 30).length c) (putL cs 30) /\ HeldT (putL cs 30) (putN know0 (putL cs 30)) := by
 obtain ⟨g, m, lo, hv, kg⟩ := h.kg
 have hb := h.below
 have hr1 : IntsAt w1 rv cs := by
  rcases hr with h | ⟨b, off, cap, rfl, hbl, hc⟩
  ·exact Or.inl h
  ·exact Or.inr ⟨b, off, cap, rfl, Nat.lt_of_lt_of_le hbl hb.size, fun i c h => (hb.cell (p := ⟨b, off + i, none⟩) hbl).trans (hc i c h)⟩
 have hB : ∀ b off n cap, rv = .slice (some ⟨b, off, none⟩) n cap -> n ≠ 0 -> b ≠ gb := by
  intro b off n cap e hn
  rcases hr with ⟨⟨x, c, e2⟩, -⟩ | ⟨b', off', cap', e2, hbl, -⟩
  ·rw [e2] at e; injection e with _ e _; omega
  ·rw [e2] at e
   injection e with e _ _
   injection e with e
   injection e with e
   have := kg.gB
   omega
 refine (kPut_any kg (by omega) 30 (by decide) (by decide) hr1 hB hcs hl).mono ?_
 rintro e wP ⟨o, c, rfl, hI⟩
 obtain ⟨g', hv', kg'⟩ := hI.kg
 have hlen := putL_len cs 30
 exact ⟨o, c, rfl, ⟨⟨g', m, lo, by omega, kg'⟩, hb.grown hI.kept hb.size (fun j hj => by injection hj with hj; rw [← hj]; exact kg.gB)⟩, owns_strT hI.own, held_t kg'⟩
structure Usr (l : List ByteArray) (a : Nat) (tx : ByteArray) (U : Nod) : Prop where
 nm : ∃ ku nu, NmN U ku nu none
 txt : thT U = tx
 sz : tx.size = 6
 own : (⟨#[100, 111, 99, 58]⟩ ++ letS a ++ ⟨#[35, 98, 111, 116, 104, 64]⟩ ++ tx : ByteArray) ∈ l ↔ ∃ b, b < 4 /\ U = uN b /\ kT 8 a b ∈ l
theorem bothT (a b : Nat) : (⟨#[100, 111, 99, 58]⟩ ++ letS a ++ ⟨#[35, 98, 111, 116, 104, 64]⟩ ++ (⟨#[117, 115, 101, 114, 58]⟩ ++ letS b) : ByteArray) = kT 8 a b := by
 refine bytes_ext ?_
 simp [kT, kPre, kMid, kEnd]
def usrZ : ByteArray := ⟨#[117, 115, 101, 114, 58, 122]⟩
theorem bothZ : ∀ a, a < 4 -> ∀ k, k < 9 -> ∀ a', a' < 4 -> ∀ b, b < 4 -> kT k a' b ≠ ⟨#[100, 111, 99, 58]⟩ ++ letS a ++ ⟨#[35, 98, 111, 116, 104, 64]⟩ ++ usrZ := by decide +kernel
theorem letS_z : ∀ b, b < 4 -> letS b ≠ zB := by decide +kernel
theorem usr_u {l : List ByteArray} (a : Nat) {j : Nat} (hj : j < 4) : Usr l a (⟨#[117, 115, 101, 114, 58]⟩ ++ letS j) (uN j) := by
 refine ⟨⟨_, _, uN_nm j⟩, usrS_th j, ?_, ?_⟩
 ·have := letS_size j
  rw [ByteArray.size_append, this]; rfl
 ·rw [bothT]
  constructor
  ·intro h; exact ⟨j, hj, rfl, h⟩
  ·rintro ⟨b, hb, e, h⟩
   rw [uN_inj hj hb e]; exact h
theorem usr_z {l now : List ByteArray} (h : HeldT l now) {a : Nat} (ha : a < 4) : Usr l a usrZ zN := by
 refine ⟨⟨_, _, zN_nm⟩, rfl, rfl, ?_⟩
 constructor
 ·intro hm
  obtain ⟨k, a', b, hk, e⟩ := h.ks _ hm
  rw [kT_mod] at e
  exact absurd e.symm (bothZ a ha k hk _ (by omega) _ (by omega))
 ·rintro ⟨b, hb, e, -⟩
  exact absurd (congrArg Nod.n e).symm (letS_z b hb)
theorem who_inj {now : List ByteArray} (ht : ∀ s ∈ now, tupOk s = true) {u' n u : Nod} (hi : InN (tsOf now) krules u' n) {ku nu : List UInt8} (hu : NmN u ku nu none) (e : thT u' = thT u) : u' = u := by
 obtain ⟨h1, ⟨t, h2, h3⟩, -⟩ := hi
 obtain ⟨s, hs, rfl⟩ := List.mem_map.1 h2
 obtain ⟨k, n', o, hn⟩ := (tup_txt (ht s hs)).2.1
 rw [h3] at hn
 have hth : u.isTh = true := (nmN_th hu).2 rfl
 exact nmN_inj hn hu (by unfold txT; rw [if_pos h1, if_pos hth]; exact e)
theorem r_check (HN : Hid NodeC) (HW : Hid TWayC) {W : World} {gb : Nat} {n : Int} {now l : List ByteArray} {w : World} (h : GSt W gb n now w) (ht : ∀ s ∈ now, tupOk s = true) {a : Nat} {tx : ByteArray} {U : Nod} (hu : Usr l a tx U) :
  Calls Tryz.prog 21 #[.pointer (some ⟨gb, 0, none⟩), .string (⟨#[100, 111, 99, 58]⟩ ++ letS a ++ ⟨#[35, 114, 101, 97, 100, 101, 114, 64]⟩ ++ tx)] w fun e w' => ∃ bo : Bool, e = .returned (.tuple #[.bool bo, .int .i64 0]) /\ Below w.heap.size w w' /\ (bo = true ↔ InN (tsOf now) krules U (dN a readerB)) := by
 obtain ⟨ku, nu, hn⟩ := hu.nm
 have hd := dN_nm relS_reader.nm a
 have htx : tx.data.toList = ku ++ 58 :: nu := by
  rw [← hu.txt, hn.e]
  simp [thT, mk_list]
 have hs : (⟨#[100, 111, 99, 58]⟩ ++ letS a ++ ⟨#[35, 114, 101, 97, 100, 101, 114, 64]⟩ ++ tx : ByteArray).data.toList = docB.data.toList ++ 58 :: ((letS a).data.toList ++ 35 :: (readerB.data.toList ++ 64 :: (ku ++ 58 :: nu))) := by
  simp [docB, readerB, ← htx]
 obtain ⟨q1, q2, q3, q4⟩ := que_yes hd.hk hd.hn (hd.ho _ rfl) hn.hk hn.hn hs
 have qx : queX (⟨#[100, 111, 99, 58]⟩ ++ letS a ++ ⟨#[35, 114, 101, 97, 100, 101, 114, 64]⟩ ++ tx) = dN a readerB := by rw [q3]; exact hd.e.symm
 have qy : queY (⟨#[100, 111, 99, 58]⟩ ++ letS a ++ ⟨#[35, 114, 101, 97, 100, 101, 114, 64]⟩ ++ tx) = U := by rw [q4]; exact hn.e.symm
 have q5 : (⟨#[100, 111, 99, 58]⟩ ++ letS a ++ ⟨#[35, 114, 101, 97, 100, 101, 114, 64]⟩ ++ tx : ByteArray).size <= maxLen := by
  have e1 := letS_size a
  have e2 := hu.sz
  simp only [ByteArray.size_append]
  have e3 : (⟨#[100, 111, 99, 58]⟩ : ByteArray).size = 4 := rfl
  have e4 : (⟨#[35, 114, 101, 97, 100, 101, 114, 64]⟩ : ByteArray).size = 8 := rfl
  unfold maxLen
  omega
 generalize hsq : (⟨#[100, 111, 99, 58]⟩ ++ letS a ++ ⟨#[35, 114, 101, 97, 100, 101, 114, 64]⟩ ++ tx : ByteArray) = s at *
 obtain ⟨g, m, lo, hv, kg⟩ := h.kg
 refine (check_any HN HW (kg.gate s q5) s q5 (fun h _ => queOk_of h krules now) (que_sizesK s q5)).mono ?_
 rintro e w' ⟨bo, er, rfl, hb, he, hbo⟩
 have e0 : er = 0 := by
  rw [he, q1, q2, qx, if_neg (by simp), show hasR krules (dN a readerB) = true from (show hasR krules (dN a readerB) = hasR krules (dN 0 readerB) from rfl).trans relS_reader.has]; rfl
 subst e0
 refine ⟨bo, rfl, hb, hbo.trans ?_⟩
 rw [qx, qy]
 constructor
 ·rintro ⟨-, u, hi, e⟩
  rw [← who_inj ht hi hn e]; exact hi
 ·intro hi; exact ⟨rfl, U, hi, rfl⟩
def AbP (now l : List ByteArray) (a i k : Nat) (ps : List ByteArray) (u : Nod) : Prop :=
 (∃ b, b < 4 /\ thT ⟨docB, letS b, noneB⟩ ∈ ps.take i /\ InN (tsOf now) krules u (dN b readerB)) \/ ∃ b, b < k /\ kT 5 a b ∈ l /\ InN (tsOf now) krules u (gN b)
structure AbI (now l : List ByteArray) (a : Nat) (ps : List ByteArray) (i k : Nat) (ab : List ByteArray) : Prop where
 len : ab.length <= 50 * (i + k)
 mem : ∀ z, z ∈ ab ↔ ∃ u, AbP now l a i k ps u /\ thT u = z
theorem AbI.start {now l : List ByteArray} {a : Nat} {ps : List ByteArray} : AbI now l a ps 0 0 [] := by
 refine ⟨by simp, fun z => ⟨fun h => (List.not_mem_nil h).elim, ?_⟩⟩
 rintro ⟨u, ⟨b, -, h, -⟩ | ⟨b, h, -⟩, -⟩
 ·simp at h
 ·omega
theorem thT_doc (b : Nat) : thT ⟨docB, letS b, noneB⟩ = ⟨#[100, 111, 99, 58]⟩ ++ letS b := by
 refine bytes_ext ?_
 simp [thT, docB]
theorem thT_docInj {b c : Nat} (h : thT ⟨docB, letS b, noneB⟩ = thT ⟨docB, letS c, noneB⟩) : letS b = letS c := by
 rw [thT_doc, thT_doc] at h
 have e := congrArg (fun s : ByteArray => s.data.toList) h
 simp at e
 exact ByteArray.ext e
theorem AbI.stepP {now l : List ByteArray} {a : Nat} {ps : List ByteArray} {i : Nat} {ab : List ByteArray} (h : AbI now l a ps i 0 ab) {b : Nat} (hb : b < 4) (hp : ps[i]? = some (thT ⟨docB, letS b, noneB⟩)) {zs : List ByteArray} (hz : WhoRu now (dN b readerB) zs) : AbI now l a ps (i + 1) 0 (ab ++ zs) := by
 obtain ⟨-, hzl, hzm⟩ := hz
 have htk : ps.take (i + 1) = ps.take i ++ [thT ⟨docB, letS b, noneB⟩] := by
  obtain ⟨h1, h2⟩ := List.getElem?_eq_some_iff.1 hp
  rw [List.take_succ_eq_append_getElem h1, h2]
 refine ⟨?_, fun z => ?_⟩
 ·rw [List.length_append]; have := h.len; omega
 ·rw [List.mem_append, h.mem, hzm]
  unfold AbP
  rw [htk]
  constructor
  ·rintro (⟨u, ⟨c, hc, h1, h2⟩ | ⟨c, hc, -⟩, e⟩ | ⟨u, hi, e⟩)
   ·exact ⟨u, Or.inl ⟨c, hc, List.mem_append_left _ h1, h2⟩, e⟩
   ·omega
   ·exact ⟨u, Or.inl ⟨b, hb, List.mem_append_right _ (List.mem_singleton.2 rfl), hi⟩, e⟩
  ·rintro ⟨u, ⟨c, hc, h1, h2⟩ | ⟨c, hc, -⟩, e⟩
   ·rcases List.mem_append.1 h1 with h1 | h1
    ·exact Or.inl ⟨u, Or.inl ⟨c, hc, h1, h2⟩, e⟩
    ·have e2 := thT_docInj (List.mem_singleton.1 h1)
     refine Or.inr ⟨u, ?_, e⟩
     unfold dN at h2 ⊢
     rw [← e2]; exact h2
   ·omega
theorem AbI.stepG {now l : List ByteArray} {a : Nat} {ps : List ByteArray} {i k : Nat} {ab : List ByteArray} (h : AbI now l a ps i k ab) (hl : kT 5 a k ∈ l) {zs : List ByteArray} (hz : WhoRu now (gN k) zs) : AbI now l a ps i (k + 1) (ab ++ zs) := by
 obtain ⟨-, hzl, hzm⟩ := hz
 refine ⟨?_, fun z => ?_⟩
 ·rw [List.length_append]; have := h.len; omega
 ·rw [List.mem_append, h.mem, hzm]
  unfold AbP
  constructor
  ·rintro (⟨u, h1 | ⟨c, hc, h1, h2⟩, e⟩ | ⟨u, hi, e⟩)
   ·exact ⟨u, Or.inl h1, e⟩
   ·exact ⟨u, Or.inr ⟨c, by omega, h1, h2⟩, e⟩
   ·exact ⟨u, Or.inr ⟨k, by omega, hl, hi⟩, e⟩
  ·rintro ⟨u, h1 | ⟨c, hc, h1, h2⟩, e⟩
   ·exact Or.inl ⟨u, Or.inl h1, e⟩
   ·by_cases hk : c = k
    ·subst hk; exact Or.inr ⟨u, h2, e⟩
    ·exact Or.inl ⟨u, Or.inr ⟨c, by omega, h1, h2⟩, e⟩
theorem AbI.stepN {now l : List ByteArray} {a : Nat} {ps : List ByteArray} {i k : Nat} {ab : List ByteArray} (h : AbI now l a ps i k ab) (hl : kT 5 a k ∉ l) : AbI now l a ps i (k + 1) ab := by
 refine ⟨by have := h.len; omega, fun z => ?_⟩
 rw [h.mem]
 unfold AbP
 constructor
 ·rintro ⟨u, h1 | ⟨c, hc, h1, h2⟩, e⟩
  ·exact ⟨u, Or.inl h1, e⟩
  ·exact ⟨u, Or.inr ⟨c, by omega, h1, h2⟩, e⟩
 ·rintro ⟨u, h1 | ⟨c, hc, h1, h2⟩, e⟩
  ·exact ⟨u, Or.inl h1, e⟩
  ·by_cases hk : c = k
   ·subst hk; exact absurd h1 hl
   ·exact ⟨u, Or.inr ⟨c, by omega, h1, h2⟩, e⟩
theorem docT_nm (b : Nat) : NmN ⟨docB, letS b, noneB⟩ docB.data.toList (letS b).data.toList none := by
 refine ⟨?_, by decide +kernel, let_name' b, fun z hz => by cases hz⟩
 show (⟨docB, letS b, noneB⟩ : Nod) = ⟨mk docB.data.toList, mk (letS b).data.toList, noneB⟩
 rw [mk_data, mk_data]
theorem par_text {l now : List ByteArray} (h : HeldT l now) {a : Nat} (ha : a < 4) {ps : List ByteArray} (hp : WhoRu now (dN a parentB) ps) {z : ByteArray} (hz : z ∈ ps) : ∃ b, b < 4 /\ z = thT ⟨docB, letS b, noneB⟩ := by
 obtain ⟨u, hi, e⟩ := (hp.2.2 z).1 hz
 obtain ⟨b, hb, rfl, -⟩ := (ruled_parent h ha u).1 hi
 exact ⟨b, hb, e.symm⟩
theorem AbI.all {l now : List ByteArray} (h : HeldT l now) {a : Nat} (ha : a < 4) {ps : List ByteArray} (hp : WhoRu now (dN a parentB) ps) {ab : List ByteArray} (hA : AbI now l a ps ps.length 4 ab) {tx : ByteArray} {U : Nod} (hu : Usr l a tx U) :
  tx ∈ ab ↔ (∃ b, b < 4 /\ kT 4 a b ∈ l /\ InN (tsOf now) krules U (dN b readerB)) \/ ∃ b, b < 4 /\ kT 5 a b ∈ l /\ InN (tsOf now) krules U (gN b) := by
 obtain ⟨ku, nu, hn⟩ := hu.nm
 rw [hA.mem, ← hu.txt]
 unfold AbP
 rw [List.take_length]
 have hpar : ∀ b, b < 4 -> (thT ⟨docB, letS b, noneB⟩ ∈ ps ↔ kT 4 a b ∈ l) := fun b hb => by
  rw [mem_who h.ht hp.2.2 (docT_nm b), ruled_parent h ha]
  constructor
  ·rintro ⟨c, hc, e, hl⟩
   rw [letS_inj b hb c hc (congrArg Nod.n e)]; exact hl
  ·intro hl; exact ⟨b, hb, rfl, hl⟩
 constructor
 ·rintro ⟨u, ⟨b, hb, h1, h2⟩ | ⟨b, hb, h1, h2⟩, e⟩
  ·rw [← who_inj h.ht h2 hn e]
   exact Or.inl ⟨b, hb, (hpar b hb).1 h1, h2⟩
  ·rw [← who_inj h.ht h2 hn e]
   exact Or.inr ⟨b, hb, h1, h2⟩
 ·rintro (⟨b, hb, h1, h2⟩ | ⟨b, hb, h1, h2⟩)
  ·exact ⟨U, Or.inl ⟨b, hb, (hpar b hb).2 h1, h2⟩, rfl⟩
  ·exact ⟨U, Or.inr ⟨b, hb, h1, h2⟩, rfl⟩
theorem bool_of {a b : Bool} (h : a = true ↔ b = true) : a = b := by
 cases a <;> cases b <;> simp_all
theorem ruled_eqs {l now : List ByteArray} (h : HeldT l now) {a : Nat} (ha : a < 4) {U : Nod} {r o t m x y own is : Bool} (hr : r = true ↔ InN (tsOf now) krules U (dN a readerB)) (ho : o = true ↔ InN (tsOf now) krules U (dN a ownerB)) (ht : t = true ↔ InN (tsOf now) krules U (dN a trustedB)) (hx : x = true ↔ InN (tsOf now) krules U (dN a editorB)) (hy : y = true ↔ InN (tsOf now) krules U (dN a bothB))
  (hm : m = true ↔ (∃ b, b < 4 /\ kT 4 a b ∈ l /\ InN (tsOf now) krules U (dN b readerB)) \/ ∃ b, b < 4 /\ kT 5 a b ∈ l /\ InN (tsOf now) krules U (gN b)) (hown : own = true ↔ ∃ b, b < 4 /\ U = uN b /\ kT 8 a b ∈ l) (his : is = true ↔ InN (tsOf now) krules U (dN a readerB)) :
  r = (o || m) /\ x = (r && t) /\ y = ((o || t) && (own || r)) /\ is = r := by
 refine ⟨bool_of ?_, bool_of ?_, bool_of ?_, bool_of (his.trans hr.symm)⟩
 ·rw [hr, ruled_reader h ha, Bool.or_eq_true, ho, hm]
 ·rw [hx, ruled_editor, Bool.and_eq_true, hr, ht]
 ·rw [hy, ruled_both h ha, Bool.and_eq_true, Bool.or_eq_true, Bool.or_eq_true, ho, ht, hown, hr]
structure OneR (wP : World) (gv : Value) (gs : List ByteArray) (wr : World) : Prop where
 g : wr.ownsRow wP.heap.size 9 1 gv gs.length (strV gs)
 below : Below wP.heap.size wP wr
theorem OneR.later {wP : World} {gv : Value} {gs : List ByteArray} {wr w' : World} (h : OneR wP gv gs wr) (hb : Below wr.heap.size wr w') : OneR wP gv gs w' :=
 ⟨owns_below h.g hb, h.below.trans (hb.mono h.below.size)⟩
theorem OneR.add {wP : World} {gv : Value} {gs : List ByteArray} {wr : World} (h : OneR wP gv gs wr) {base2 : Nat} {u : Value} {ys : List ByteArray} (hu : wr.ownsRow base2 9 1 u ys.length (strV ys)) (hl : gs.length + ys.length <= 1000000) :
  ∃ o c w', (Builtin.append_ #[28, 28] 28 #[gv, u]).run Tryz.prog wr = .ok (.slice o (gs ++ ys).length c) w' /\ OneR wP (.slice o (gs ++ ys).length c) (gs ++ ys) w' := by
 obtain ⟨v', w', hr, ho, hg⟩ := app_rows wr wP.heap.size base2 gv u gs ys h.g hu h.below.size hl
 obtain ⟨o, c, rfl⟩ := owns_form ho
 exact ⟨o, c, w', hr, ho, h.below.grown hg h.below.size (fun j hj => (h.g.lt j hj).1)⟩
def RRows (now : List ByteArray) (w : World) (L : List (Nod × Value × List ByteArray)) : Prop := ∀ p ∈ L, WhoRu now p.1 p.2.2 /\ StrT w p.2.1 p.2.2
theorem RRows.later {now : List ByteArray} {w w' : World} {L : List (Nod × Value × List ByteArray)} (h : RRows now w L) (hb : Below w.heap.size w w') : RRows now w' L := fun p hp => ⟨(h p hp).1, (StrK.of_below hb).strT (h p hp).2⟩
theorem RRows.more {now : List ByteArray} {w w' : World} {L : List (Nod × Value × List ByteArray)} (h : RRows now w L) (hb : Below w.heap.size w w') {n : Nod} {v : Value} {zs : List ByteArray} (hz : WhoRu now n zs) (ht : StrT w' v zs) : RRows now w' ((n, v, zs) :: L) := fun p hp => by
 rcases List.mem_cons.1 hp with rfl | hp
 ·exact ⟨hz, ht⟩
 ·exact h.later hb p hp
theorem readG (a b : Nat) : (⟨#[100, 111, 99, 58]⟩ ++ letS a ++ ⟨#[35, 114, 101, 97, 100, 101, 114, 64, 103, 114, 111, 117, 112, 58]⟩ ++ letS b ++ ⟨#[35, 109, 101, 109, 98, 101, 114]⟩ : ByteArray) = kT 5 a b := rfl
theorem ruled_any (HN : Hid NodeC) (HW : Hid TWayC) {w : World} {rv : Value} {cs : List Int} (hr : IntsAt w rv cs) (hcs : ∀ c ∈ cs, -9223372036854775808 <= c /\ c <= 9223372036854775807) (hl : cs.length <= 9223372036854775807) (wh : Int) (hw1 : -9223372036854775808 <= wh) (hw2 : wh <= 9223372036854775807) :
  Calls Tryz.prog 7 #[rv, .int .i64 wh] w fun e w' => e = .returned (.bool true) /\ Below w.heap.size w w' := by
 have HOP : Hid (Calls Tryz.prog 14 #[.int .i64 1, .int .i64 1] w _) := r_open HN HW w
 have HPT : Hid (∀ (gb : Nat) (w1 : World), GSt w gb 1 know0 w1 -> Calls Tryz.prog 15 #[.pointer (some ⟨gb, 0, none⟩), rv, .int .i64 30] w1 fun e wP => ∃ o c, e = .returned (.tuple #[.slice o (putL cs 30).length c, .bool true]) /\ GSt w gb 31 (putN know0 (putL cs 30)) wP /\ StrT wP (.slice o (putL cs 30).length c) (putL cs 30) /\ HeldT (putL cs 30) (putN know0 (putL cs 30))) := fun gb w1 h => r_put hr hcs hl h
 obtain ⟨b1, b2⟩ := pickN_bd wh 4 (by decide)
 have hpk := fun w1 => kPick_any wh 4 w1 hw1 hw2 (by decide) (by decide)
 obtain ⟨f, hf⟩ := Int.eq_ofNat_of_zero_le b1
 rw [hf] at hpk b2
 have hf4 : f < 4 := by omega
 have HPK : Hid (∀ w1, Calls Tryz.prog 17 #[.int .i64 wh, .int .i64 4] w1 fun e w' => e = .returned (.int .i64 (f : Nat)) /\ w' = w1) := hpk
 have HLT : Hid (∀ (n : Nat) (w1 : World), n <= 4 -> Calls Tryz.prog 16 #[.int .i64 (n : Nat)] w1 fun e w' => e = .returned (.string (letS n)) /\ Below w1.heap.size w1 w') := fun n w1 hn => letter_any n w1 (by omega)
 have hll : (putL cs 30).length <= 30 := putL_len cs 30
 have hrv : ∃ x n c, rv = .slice x n c := by
  rcases hr with ⟨⟨x, c, rfl⟩, -⟩ | ⟨b, off, cap, rfl, -⟩
  ·exact ⟨_, _, _, rfl⟩
  ·exact ⟨_, _, _, rfl⟩
 obtain ⟨rx, rn, rc, rfl⟩ := hrv
 clear hr hcs hl hpk hf b1 b2 hw1 hw2
 generalize hnow : putN know0 (putL cs 30) = now at *
 generalize putL cs 30 = l at *
 clear hnow
 have sf := letS_size f
 have HWQ : Hid (∀ (gb : Nat) (q : ByteArray) (x : Nod) (w1 : World), GSt w gb 31 now w1 -> queOk q = true /\ queC q = false /\ queX q = x /\ hasR krules (queX q) = true /\ q.size <= maxLen -> Calls Tryz.prog 19 #[.pointer (some ⟨gb, 0, none⟩), .string q] w1 fun e w' => ∃ o c zs, e = .returned (.tuple #[.slice o zs.length c, .bool true]) /\ Below w1.heap.size w1 w' /\ WhoRu now x zs /\ w'.ownsRow w1.heap.size 9 1 (.slice o zs.length c) zs.length (strV zs)) := fun gb q x w1 h hq => r_who HN HW h hq
 have HCK : Hid (∀ (gb : Nat) (tx : ByteArray) (U : Nod) (w1 : World), GSt w gb 31 now w1 -> HeldT l now -> Usr l f tx U -> Calls Tryz.prog 21 #[.pointer (some ⟨gb, 0, none⟩), .string (⟨#[100, 111, 99, 58]⟩ ++ letS f ++ ⟨#[35, 114, 101, 97, 100, 101, 114, 64]⟩ ++ tx)] w1 fun e w' => ∃ bo : Bool, e = .returned (.tuple #[.bool bo, .int .i64 0]) /\ Below w1.heap.size w1 w' /\ (bo = true ↔ InN (tsOf now) krules U (dN f readerB))) := fun gb tx U w1 h ht hu => r_check HN HW h ht.ht hu
 have HD1 : Hid (∀ b, queOk (dTx b ⟨#[35, 114, 101, 97, 100, 101, 114]⟩) = true /\ queC (dTx b ⟨#[35, 114, 101, 97, 100, 101, 114]⟩) = false /\ queX (dTx b ⟨#[35, 114, 101, 97, 100, 101, 114]⟩) = dN b readerB /\ hasR krules (queX (dTx b ⟨#[35, 114, 101, 97, 100, 101, 114]⟩)) = true /\ (dTx b ⟨#[35, 114, 101, 97, 100, 101, 114]⟩).size <= maxLen) := fun b => dTx_que relS_reader b
 clear HN HW
 go_enter Tryz.func7, Tryz.ntmps7
 go_wp2_with (first
  | (go_at_call 14; refine HOP.out.mono ?_; rintro e w1 ⟨gb, rfl, h1⟩; have HPU : Hid (Calls Tryz.prog 15 #[.pointer (some ⟨gb, 0, none⟩), .slice rx rn rc, .int .i64 30] w1 _) := HPT.out gb w1 h1; clear h1 HPT)
  | (go_at_call 15; refine HPU.out.mono ?_; rintro e wP ⟨lo, lc, rfl, hP, hls, hht⟩; have HS0 : Hid (GSt w gb 31 now wP) := hP; have HLS : Hid (StrT wP (.slice lo l.length lc) l) := hls; have HT : Hid (HeldT l now) := hht; clear hP hls hht HPU)
  | (go_at_call 17; refine (HPK.out _).mono ?_; rintro e w2 ⟨rfl, hw2⟩; subst w2)
  | (go_at_call 16; refine (HLT.out f _ (by omega)).mono ?_; rintro e w3 ⟨rfl, hb3⟩; have HL3 : Hid (StrT w3 (.slice lo l.length lc) l) := (StrK.of_below hb3).strT HLS.out; have HS3 : Hid (GSt w gb 31 now w3) := HS0.out.later hb3; have HW1 : Hid (Calls Tryz.prog 19 #[.pointer (some ⟨gb, 0, none⟩), .string (⟨#[100, 111, 99, 58]⟩ ++ letS f ++ ⟨#[35, 114, 101, 97, 100, 101, 114]⟩)] w3 _) := HWQ.out gb _ (dN f readerB) w3 HS3.out (HD1.out f); clear hb3 HS0 HLS)
  | (go_at_call 19; refine HW1.out.mono ?_; rintro e w4 ⟨o4, c4, rs, rfl, hb4, hz4, ho4⟩; have HR4 : Hid (RRows now w4 [(dN f readerB, .slice o4 rs.length c4, rs)] /\ StrT w4 (.slice lo l.length lc) l /\ GSt w gb 31 now w4 /\ rs.length <= 50) := ⟨RRows.more (L := []) (fun p hp => (List.not_mem_nil hp).elim) hb4 hz4 (owns_strT ho4), (StrK.of_below hb4).strT HL3.out, HS3.out.later hb4, hz4.2.1⟩; have HW2 : Hid (Calls Tryz.prog 19 #[.pointer (some ⟨gb, 0, none⟩), .string (⟨#[100, 111, 99, 58]⟩ ++ letS f ++ ⟨#[35, 111, 119, 110, 101, 114]⟩)] w4 _) := HWQ.out gb _ (dN f ownerB) w4 HR4.out.2.2.1 (dTx_que relS_owner f); clear hb4 hz4 ho4 HL3 HS3 HW1)
  | (go_at_call 19; refine HW2.out.mono ?_; rintro e w5 ⟨o5, c5, os, rfl, hb5, hz5, ho5⟩; have HR5 : Hid (RRows now w5 [(dN f ownerB, .slice o5 os.length c5, os), (dN f readerB, .slice o4 rs.length c4, rs)] /\ StrT w5 (.slice lo l.length lc) l /\ GSt w gb 31 now w5 /\ os.length <= 50) := ⟨HR4.out.1.more hb5 hz5 (owns_strT ho5), (StrK.of_below hb5).strT HR4.out.2.1, HR4.out.2.2.1.later hb5, hz5.2.1⟩; have HW3 : Hid (Calls Tryz.prog 19 #[.pointer (some ⟨gb, 0, none⟩), .string (⟨#[100, 111, 99, 58]⟩ ++ letS f ++ ⟨#[35, 116, 114, 117, 115, 116, 101, 100]⟩)] w5 _) := HWQ.out gb _ (dN f trustedB) w5 HR5.out.2.2.1 (dTx_que relS_trusted f); clear hb5 hz5 ho5 HR4 HW2)
  | (go_at_call 19; refine HW3.out.mono ?_; rintro e w6 ⟨o6, c6, ts, rfl, hb6, hz6, ho6⟩; have HR6 : Hid (RRows now w6 [(dN f trustedB, .slice o6 ts.length c6, ts), (dN f ownerB, .slice o5 os.length c5, os), (dN f readerB, .slice o4 rs.length c4, rs)] /\ StrT w6 (.slice lo l.length lc) l /\ GSt w gb 31 now w6 /\ ts.length <= 50) := ⟨HR5.out.1.more hb6 hz6 (owns_strT ho6), (StrK.of_below hb6).strT HR5.out.2.1, HR5.out.2.2.1.later hb6, hz6.2.1⟩; have HW4 : Hid (Calls Tryz.prog 19 #[.pointer (some ⟨gb, 0, none⟩), .string (⟨#[100, 111, 99, 58]⟩ ++ letS f ++ ⟨#[35, 101, 100, 105, 116, 111, 114]⟩)] w6 _) := HWQ.out gb _ (dN f editorB) w6 HR6.out.2.2.1 (dTx_que relS_editor f); clear hb6 hz6 ho6 HR5 HW3)
  | (go_at_call 19; refine HW4.out.mono ?_; rintro e w7 ⟨o7, c7, es, rfl, hb7, hz7, ho7⟩; have HR7 : Hid (RRows now w7 [(dN f editorB, .slice o7 es.length c7, es), (dN f trustedB, .slice o6 ts.length c6, ts), (dN f ownerB, .slice o5 os.length c5, os), (dN f readerB, .slice o4 rs.length c4, rs)] /\ StrT w7 (.slice lo l.length lc) l /\ GSt w gb 31 now w7 /\ es.length <= 50) := ⟨HR6.out.1.more hb7 hz7 (owns_strT ho7), (StrK.of_below hb7).strT HR6.out.2.1, HR6.out.2.2.1.later hb7, hz7.2.1⟩; have HW5 : Hid (Calls Tryz.prog 19 #[.pointer (some ⟨gb, 0, none⟩), .string (⟨#[100, 111, 99, 58]⟩ ++ letS f ++ ⟨#[35, 98, 111, 116, 104]⟩)] w7 _) := HWQ.out gb _ (dN f bothB) w7 HR7.out.2.2.1 (dTx_que relS_both f); clear hb7 hz7 ho7 HR6 HW4)
  | (go_at_call 19; refine HW5.out.mono ?_; rintro e w8 ⟨o8, c8, bs, rfl, hb8, hz8, ho8⟩; have HR8 : Hid (RRows now w8 [(dN f bothB, .slice o8 bs.length c8, bs), (dN f editorB, .slice o7 es.length c7, es), (dN f trustedB, .slice o6 ts.length c6, ts), (dN f ownerB, .slice o5 os.length c5, os), (dN f readerB, .slice o4 rs.length c4, rs)] /\ StrT w8 (.slice lo l.length lc) l /\ GSt w gb 31 now w8 /\ bs.length <= 50) := ⟨HR7.out.1.more hb8 hz8 (owns_strT ho8), (StrK.of_below hb8).strT HR7.out.2.1, HR7.out.2.2.1.later hb8, hz8.2.1⟩; have HW6 : Hid (Calls Tryz.prog 19 #[.pointer (some ⟨gb, 0, none⟩), .string (⟨#[100, 111, 99, 58]⟩ ++ letS f ++ ⟨#[35, 112, 97, 114, 101, 110, 116]⟩)] w8 _) := HWQ.out gb _ (dN f parentB) w8 HR8.out.2.2.1 (dTx_que relS_parent f); clear hb8 hz8 ho8 HR7 HW5)
  | (go_at_call 19; refine HW6.out.mono ?_; rintro e w9 ⟨o9, c9, ps, rfl, hb9, hz9, ho9⟩; have HR9 : Hid (RRows now w9 [(dN f parentB, .slice o9 ps.length c9, ps), (dN f bothB, .slice o8 bs.length c8, bs), (dN f editorB, .slice o7 es.length c7, es), (dN f trustedB, .slice o6 ts.length c6, ts), (dN f ownerB, .slice o5 os.length c5, os), (dN f readerB, .slice o4 rs.length c4, rs)] /\ StrT w9 (.slice lo l.length lc) l /\ GSt w gb 31 now w9) := ⟨HR8.out.1.more hb9 hz9 (owns_strT ho9), (StrK.of_below hb9).strT HR8.out.2.1, HR8.out.2.2.1.later hb9⟩; have hpl := hz9.2.1; clear hb9 hz9 ho9 HR8 HW6))
 have HX : Hid (∀ w', Below w9.heap.size w9 w' -> GSt w gb 31 now w' /\ StrT w' (.slice lo l.length lc) l /\ RRows now w' [(dN f parentB, .slice o9 ps.length c9, ps), (dN f bothB, .slice o8 bs.length c8, bs), (dN f editorB, .slice o7 es.length c7, es), (dN f trustedB, .slice o6 ts.length c6, ts), (dN f ownerB, .slice o5 os.length c5, os), (dN f readerB, .slice o4 rs.length c4, rs)]) := fun w' hb => ⟨HR9.out.2.2.later hb, (StrK.of_below hb).strT HR9.out.2.1, HR9.out.1.later hb⟩
 have HPZ : Hid (WhoRu now (dN f parentB) ps) := (HR9.out.1 _ (.head _)).1
 have HO0 : Hid (OneR w9 (.slice none 0 0) [] w9) := ⟨World.ownsRow_nil _ _ _ _, Below.refl _ _⟩
 clear HR9
 go_loopw [21, 22] (fun av i wr => ∃ (k : Nat) (ab : List ByteArray) (o : Option Addr) (c : Nat), av = .slice o ab.length c /\ i = .int .i64 k /\ k <= ps.length /\ AbI now l f ps k 0 ab /\ OneR w9 av ab wr) (fun _ i _ => ps.length - (intOf i).toNat)
 case atStart => exact ⟨0, [], none, 0, rfl, rfl, Nat.zero_le _, AbI.start, HO0.out⟩
 case round =>
  obtain ⟨k, ab, oa, ca, rfl, rfl, hkl, hA, hO⟩ := hrel
  have HA : Hid (AbI now l f ps k 0 ab) := hA
  have HO : Hid (OneR w9 (.slice oa ab.length ca) ab wr) := hO
  have hal := hA.len
  clear hA hO HO0
  by_cases hlt : k < ps.length
  ·obtain ⟨z, hz⟩ : ∃ z, ps[k]? = some z := ⟨_, List.getElem?_eq_getElem hlt⟩
   obtain ⟨gp, hgp, hzc⟩ := strT_cell ((HX.out wr HO.out.below).2.2 _ (.head _)).2 hz
   obtain ⟨b, hb4, hzb⟩ := par_text HT.out hf4 HPZ.out (List.mem_of_getElem? hz)
   have hzs : z.size = 5 := by
    have := letS_size b
    rw [hzb, thT_doc, ByteArray.size_append, this]; rfl
   have HWZ : Hid (Calls Tryz.prog 19 #[.pointer (some ⟨gb, 0, none⟩), .string (z ++ ⟨#[35, 114, 101, 97, 100, 101, 114]⟩)] wr fun e w' => ∃ (o : Option Addr) (c : Nat) (zs ab' : List ByteArray) (o' : Option Addr) (c' : Nat) (w2 : World), e = .returned (.tuple #[.slice o zs.length c, .bool true]) /\ (Builtin.append_ #[28, 28] 28 #[.slice oa ab.length ca, .slice o zs.length c]).run Tryz.prog w' = .ok (.slice o' ab'.length c') w2 /\ Hid (AbI now l f ps (k + 1) 0 ab' /\ OneR w9 (.slice o' ab'.length c') ab' w2)) := by
    rw [hzb, thT_doc]
    refine (HWQ.out gb _ (dN b readerB) wr (HX.out wr HO.out.below).1 (HD1.out b)).mono ?_
    rintro e w' ⟨o, c, zs, rfl, hb, hz', ho⟩
    obtain ⟨o', c', w2, hr2, hO2⟩ := (HO.out.later hb).add ho (by have := hz'.2.1; omega)
    exact ⟨o, c, zs, ab ++ zs, o', c', w2, rfl, hr2, HA.out.stepP hb4 (by rw [hz, hzb]) hz', hO2⟩
   subst hgp
   clear hz hzb HA HO
   go_wp2_with (first | (go_at_call 19; refine HWZ.out.mono ?_; rintro e w10 ⟨o10, c10, zs, ab', o11, c11, w11, rfl, hr11, HA11⟩; clear HWZ) | (at_builtin; refine wpList_app_run rfl (.tmp 137) (.tmp 138) 28 rfl _ _ _ rfl rfl hr11 ?_; clear hr11))
   go_roundw
   case rel => exact ⟨k + 1, ab', o11, c11, rfl, by go_num, by omega, HA11.out.1, HA11.out.2⟩
   case measure => simp [intOf]; omega
  ·obtain rfl : k = ps.length := by omega
   go_wp2
   have HO2 : Hid (OneR w9 (.slice oa ab.length ca) ab wr) := HO.out
   have HA2 : Hid (AbI now l f ps ps.length 0 ab) := HA.out
   clear HO HA hlt hal hkl
   go_loopw [21, 25] (fun av i wr => ∃ (k : Nat) (ab : List ByteArray) (o : Option Addr) (c : Nat), av = .slice o ab.length c /\ i = .int .i64 k /\ k <= 4 /\ AbI now l f ps ps.length k ab /\ OneR w9 av ab wr) (fun _ i _ => 4 - (intOf i).toNat)
   case atStart => exact ⟨0, ab, oa, ca, rfl, rfl, Nat.zero_le _, HA2.out, HO2.out⟩
   case round =>
    clear HO2 HA2
    obtain ⟨k, ab, oa, ca, rfl, rfl, hkl, hA, hO⟩ := hrel
    have HA : Hid (AbI now l f ps ps.length k ab) := hA
    have HO : Hid (OneR w9 (.slice oa ab.length ca) ab wr) := hO
    have hal := hA.len
    clear hA hO
    by_cases hlt : k < 4
    ·have sk := letS_size k
     have HLA : Hid (Calls Tryz.prog 16 #[.int .i64 (k : Nat)] wr _) := HLT.out k wr (by omega)
     have HHK : Hid (∀ w', Below w9.heap.size w9 w' -> Calls Tryz.prog 18 #[.slice lo l.length lc, .string (⟨#[100, 111, 99, 58]⟩ ++ letS f ++ ⟨#[35, 114, 101, 97, 100, 101, 114, 64, 103, 114, 111, 117, 112, 58]⟩ ++ letS k ++ ⟨#[35, 109, 101, 109, 98, 101, 114]⟩)] w' fun e w'' => e = .returned (.bool (hasL l (kT 5 f k))) /\ w'' = w') := fun w' hb => by rw [readG]; exact g_has (HX.out w' hb).2.1 (by omega) _
     cases hin : hasL l (kT 5 f k)
     ·have HA3 : Hid (AbI now l f ps ps.length (k + 1) ab) := HA.out.stepN (fun h => by rw [hasL_iff.2 h] at hin; cases hin)
      rw [hin] at HHK
      clear HA hin
      go_wp2_with (first
       | (go_at_call 16; refine HLA.out.mono ?_; rintro e w10 ⟨rfl, hb10⟩; have HO10 : Hid (OneR w9 (.slice oa ab.length ca) ab w10) := HO.out.later hb10; have HWG : Hid (Calls Tryz.prog 19 #[.pointer (some ⟨gb, 0, none⟩), .string (⟨#[103, 114, 111, 117, 112, 58]⟩ ++ letS k ++ ⟨#[35, 109, 101, 109, 98, 101, 114]⟩)] w10 _) := HWQ.out gb _ (gN k) w10 (HX.out w10 HO10.out.below).1 (nodeT_que k); clear hb10 HLA)
       | (go_at_call 19; refine HWG.out.mono ?_; rintro e w11 ⟨o11, c11, zs, rfl, hb11, hz11, ho11⟩; have HO11 : Hid (OneR w9 (.slice oa ab.length ca) ab w11) := HO10.out.later hb11; have HLB : Hid (Calls Tryz.prog 16 #[.int .i64 (k : Nat)] w11 _) := HLT.out k w11 (by omega); clear hb11 hz11 ho11 HWG)
       | (go_at_call 16; refine HLB.out.mono ?_; rintro e w12 ⟨rfl, hb12⟩; have HO12 : Hid (OneR w9 (.slice oa ab.length ca) ab w12) := HO11.out.later hb12; have HHS : Hid _ := HHK.out w12 HO12.out.below; clear hb12 HLB)
       | (go_at_call 18; refine (Calls.mono HHS.out) ?_; rintro e w13 ⟨rfl, hw13⟩; subst w13; clear HHS))
      go_roundw
      case rel => exact ⟨k + 1, ab, oa, ca, rfl, by go_num, by omega, HA3.out, HO12.out⟩
      case measure => simp [intOf]; omega
     ·have HA3 : Hid (∀ zs, WhoRu now (gN k) zs -> AbI now l f ps ps.length (k + 1) (ab ++ zs)) := fun zs hz => HA.out.stepG (hasL_iff.1 hin) hz
      rw [hin] at HHK
      have HAD : Hid (∀ (w10 w11 w12 : World) (o : Option Addr) (c : Nat) (zs : List ByteArray), OneR w9 (.slice oa ab.length ca) ab w12 -> Below w11.heap.size w11 w12 -> WhoRu now (gN k) zs -> w11.ownsRow w10.heap.size 9 1 (.slice o zs.length c) zs.length (strV zs) -> ∃ (ab' : List ByteArray) (o' : Option Addr) (c' : Nat) (w2 : World), (Builtin.append_ #[28, 28] 28 #[.slice oa ab.length ca, .slice o zs.length c]).run Tryz.prog w12 = .ok (.slice o' ab'.length c') w2 /\ Hid (AbI now l f ps ps.length (k + 1) ab' /\ OneR w9 (.slice o' ab'.length c') ab' w2)) := by
       intro w10 w11 w12 o c zs hO hb hz ho
       obtain ⟨o', c', w2, hr2, hO2⟩ := hO.add (owns_below ho hb) (by have := hz.2.1; omega)
       exact ⟨ab ++ zs, o', c', w2, hr2, HA3.out zs hz, hO2⟩
      clear HA hin HA3
      go_wp2_with (first
       | (go_at_call 16; refine HLA.out.mono ?_; rintro e w10 ⟨rfl, hb10⟩; have HO10 : Hid (OneR w9 (.slice oa ab.length ca) ab w10) := HO.out.later hb10; have HWG : Hid (Calls Tryz.prog 19 #[.pointer (some ⟨gb, 0, none⟩), .string (⟨#[103, 114, 111, 117, 112, 58]⟩ ++ letS k ++ ⟨#[35, 109, 101, 109, 98, 101, 114]⟩)] w10 _) := HWQ.out gb _ (gN k) w10 (HX.out w10 HO10.out.below).1 (nodeT_que k); clear hb10 HLA)
       | (go_at_call 19; refine HWG.out.mono ?_; rintro e w11 ⟨o11, c11, zs, rfl, hb11, hz11, ho11⟩; have HO11 : Hid (OneR w9 (.slice oa ab.length ca) ab w11) := HO10.out.later hb11; have HZ11 : Hid (WhoRu now (gN k) zs /\ w11.ownsRow w10.heap.size 9 1 (.slice o11 zs.length c11) zs.length (strV zs)) := ⟨hz11, ho11⟩; have HLB : Hid (Calls Tryz.prog 16 #[.int .i64 (k : Nat)] w11 _) := HLT.out k w11 (by omega); clear hb11 hz11 ho11 HWG)
       | (go_at_call 16; refine HLB.out.mono ?_; rintro e w12 ⟨rfl, hb12⟩; have HO12 : Hid (OneR w9 (.slice oa ab.length ca) ab w12) := HO11.out.later hb12; have HHS : Hid _ := HHK.out w12 HO12.out.below; obtain ⟨ab', o13, c13, w13, hr13, HA13⟩ := HAD.out w10 w11 w12 o11 c11 zs HO12.out hb12 HZ11.out.1 HZ11.out.2; clear hb12 HLB)
       | (go_at_call 18; refine (Calls.mono HHS.out) ?_; rintro e w14 ⟨rfl, hw14⟩; subst w14; clear HHS)
       | (at_builtin; refine wpList_app_run rfl (.tmp 164) (.tmp 165) 28 rfl _ _ _ rfl rfl hr13 ?_; clear hr13))
      go_roundw
      case rel => exact ⟨k + 1, ab', o13, c13, rfl, by go_num, by omega, HA13.out.1, HA13.out.2⟩
      case measure => simp [intOf]; omega
    ·have HK4 : Hid (k = 4) := by show k = 4; omega
     go_wp2
     have HO2 : Hid (OneR w9 (.slice oa ab.length ca) ab wr) := HO.out
     have HA2 : Hid (AbI now l f ps ps.length 4 ab) := by
      have h := HA.out
      rw [HK4.out] at h
      exact h
     clear HO HA hlt hkl
     have HU : Hid (∀ (tx : ByteArray) (U : Nod), Usr l f tx U -> ∀ w10, OneR w9 (.slice oa ab.length ca) ab w10 -> ∃ o t m own : Bool, Hid (Calls Tryz.prog 18 #[.slice o4 rs.length c4, .string tx] w10 fun e w' => e = .returned (.bool (o || m)) /\ w' = w10) /\ Hid (Calls Tryz.prog 18 #[.slice o5 os.length c5, .string tx] w10 fun e w' => e = .returned (.bool o) /\ w' = w10) /\ Hid (Calls Tryz.prog 18 #[.slice o6 ts.length c6, .string tx] w10 fun e w' => e = .returned (.bool t) /\ w' = w10) /\ Hid (Calls Tryz.prog 18 #[.slice oa ab.length ca, .string tx] w10 fun e w' => e = .returned (.bool m) /\ w' = w10) /\ Hid (Calls Tryz.prog 18 #[.slice o7 es.length c7, .string tx] w10 fun e w' => e = .returned (.bool ((o || m) && t)) /\ w' = w10) /\ Hid (Calls Tryz.prog 18 #[.slice o8 bs.length c8, .string tx] w10 fun e w' => e = .returned (.bool ((o || t) && (own || (o || m)))) /\ w' = w10) /\ Hid (Calls Tryz.prog 18 #[.slice lo l.length lc, .string (⟨#[100, 111, 99, 58]⟩ ++ letS f ++ ⟨#[35, 98, 111, 116, 104, 64]⟩ ++ tx)] w10 fun e w' => e = .returned (.bool own) /\ w' = w10) /\ Hid (Calls Tryz.prog 21 #[.pointer (some ⟨gb, 0, none⟩), .string (⟨#[100, 111, 99, 58]⟩ ++ letS f ++ ⟨#[35, 114, 101, 97, 100, 101, 114, 64]⟩ ++ tx)] w10 fun e w' => e = .returned (.tuple #[.bool (o || m), .int .i64 0]) /\ Hid (OneR w9 (.slice oa ab.length ca) ab w'))) := by
      intro tx U hu w10 hO
      obtain ⟨ku, nu, hn⟩ := hu.nm
      obtain ⟨hG, hL, hR⟩ := HX.out w10 hO.below
      have key : ∀ n (v : Value) (zs : List ByteArray), WhoRu now n zs /\ StrT w10 v zs -> (Calls Tryz.prog 18 #[v, .string tx] w10 fun e w' => e = .returned (.bool (hasL zs tx)) /\ w' = w10) /\ (hasL zs tx = true ↔ InN (tsOf now) krules U n) := by
       rintro n v zs ⟨h1, h2⟩
       refine ⟨g_has h2 (by have := h1.2.1; omega) tx, ?_⟩
       rw [hasL_iff, ← hu.txt]
       exact mem_who HT.out.ht h1.2.2 hn
      obtain ⟨r1, r2⟩ := key _ _ _ (hR _ (.tail _ (.tail _ (.tail _ (.tail _ (.tail _ (.head _)))))))
      obtain ⟨p1, p2⟩ := key _ _ _ (hR _ (.tail _ (.tail _ (.tail _ (.tail _ (.head _))))))
      obtain ⟨t1, t2⟩ := key _ _ _ (hR _ (.tail _ (.tail _ (.tail _ (.head _)))))
      obtain ⟨e1, e2⟩ := key _ _ _ (hR _ (.tail _ (.tail _ (.head _))))
      obtain ⟨y1, y2⟩ := key _ _ _ (hR _ (.tail _ (.head _)))
      have m2 : hasL ab tx = true ↔ _ := hasL_iff.trans (AbI.all HT.out hf4 HPZ.out HA2.out hu)
      have w2 : hasL l (⟨#[100, 111, 99, 58]⟩ ++ letS f ++ ⟨#[35, 98, 111, 116, 104, 64]⟩ ++ tx) = true ↔ _ := hasL_iff.trans hu.own
      obtain ⟨q1, q2, q3, -⟩ := ruled_eqs HT.out hf4 r2 p2 t2 e2 y2 m2 w2 r2
      rw [q1] at r1 q2 q3
      rw [q2] at e1
      rw [q3] at y1
      refine ⟨_, _, _, _, r1, p1, t1, kHas_any _ _ _ _ (owns_strs hO.g) (by have := HK4.out; unfold maxLen; omega), e1, y1, g_has hL (by omega) _, ?_⟩
      refine (HCK.out gb tx U w10 hG HT.out hu).mono ?_
      rintro e w' ⟨bo, rfl, hb, hbo⟩
      rw [← q1, bool_of (hbo.trans r2.symm)]
      exact ⟨rfl, hO.later hb⟩
     clear HA2 HWQ HD1 HPZ HCK
     go_loopw [29] (fun i wr => ∃ (k : Nat), i = .int .i64 k /\ k <= 5 /\ OneR w9 (.slice oa ab.length ca) ab wr) (fun i _ => 5 - (intOf i).toNat)
     case atStart => exact ⟨0, rfl, Nat.zero_le _, HO2.out⟩
     case round =>
      obtain ⟨k, rfl, hkl, hO⟩ := hrel
      clear HO2
      have HO : Hid (OneR w9 (.slice oa ab.length ca) ab wr) := hO
      clear hO
      by_cases hlt : k < 4
      ·have sk := letS_size k
       have HLA : Hid (Calls Tryz.prog 16 #[.int .i64 (k : Nat)] wr _) := HLT.out k wr (by omega)
       have HUS : Hid (Usr l f (⟨#[117, 115, 101, 114, 58]⟩ ++ letS k) (uN k)) := usr_u f hlt
       have hk4 : ((k : Int) == 4) = false := by simp; omega
       go_upto_region 47 with (first
        | (go_at_call 16; refine HLA.out.mono ?_; rintro e w10 ⟨rfl, hb10⟩; have HO10 : Hid (OneR w9 (.slice oa ab.length ca) ab w10) := HO.out.later hb10; obtain ⟨o, t, m, own, H1, H2, H3, H4, H5, H6, H7, H8⟩ := HU.out (⟨#[117, 115, 101, 114, 58]⟩ ++ letS k) (uN k) HUS.out w10 HO10.out; clear hb10 HLA)
        | (go_at_call 18; refine (Calls.mono H1.out) ?_; rintro e w14 ⟨rfl, hw14⟩; subst w14; clear H1)
        | (go_at_call 18; refine (Calls.mono H2.out) ?_; rintro e w14 ⟨rfl, hw14⟩; subst w14; clear H2)
        | (go_at_call 18; refine (Calls.mono H3.out) ?_; rintro e w14 ⟨rfl, hw14⟩; subst w14; clear H3)
        | (go_at_call 18; refine (Calls.mono H4.out) ?_; rintro e w14 ⟨rfl, hw14⟩; subst w14; clear H4)
        | (go_at_call 18; refine (Calls.mono H5.out) ?_; rintro e w14 ⟨rfl, hw14⟩; subst w14; clear H5)
        | (go_at_call 18; refine (Calls.mono H6.out) ?_; rintro e w14 ⟨rfl, hw14⟩; subst w14; clear H6)
        | (go_at_call 18; refine (Calls.mono H7.out) ?_; rintro e w14 ⟨rfl, hw14⟩; subst w14; clear H7)
        | (go_at_call 21; refine (Calls.mono H8.out) ?_; rintro e w11 ⟨rfl, HO11⟩; clear H8))
       go_cut [245] from 209 to 246 (fun v wx => v = .bool false /\ OneR w9 (.slice oa ab.length ca) ab wx)
       case first =>
        clear HU HUS HX HT HLT HPK HO
        cases o <;> cases t <;> cases m <;> cases own
        all_goals
         as_aux_lemma =>
          go_wp2_with fail
          go_meet
          exact ⟨rfl, HO11.out⟩
       case rest =>
        as_aux_lemma =>
         obtain ⟨rfl, hO12⟩ := hcut
         have HO12 : Hid (OneR w9 (.slice oa ab.length ca) ab wc) := hO12
         clear hO12 HO11
         go_wp2
         go_roundw
         case rel => exact ⟨k + 1, by go_num, by omega, HO12.out⟩
         case measure => simp [intOf]; omega
      ·by_cases hlt2 : k = 4
       ·subst hlt2
        have sk := letS_size 4
        have HLA : Hid (Calls Tryz.prog 16 #[.int .i64 4] wr _) := HLT.out 4 wr (by omega)
        have HUS : Hid (Usr l f ⟨#[117, 115, 101, 114, 58, 122]⟩ zN) := usr_z HT.out hf4
        go_upto_region 47 with (first
         | (go_at_call 16; refine HLA.out.mono ?_; rintro e w10 ⟨rfl, hb10⟩; have HO10 : Hid (OneR w9 (.slice oa ab.length ca) ab w10) := HO.out.later hb10; obtain ⟨o, t, m, own, H1, H2, H3, H4, H5, H6, H7, H8⟩ := HU.out ⟨#[117, 115, 101, 114, 58, 122]⟩ zN HUS.out w10 HO10.out; clear hb10 HLA)
         | (go_at_call 18; refine (Calls.mono H1.out) ?_; rintro e w14 ⟨rfl, hw14⟩; subst w14; clear H1)
         | (go_at_call 18; refine (Calls.mono H2.out) ?_; rintro e w14 ⟨rfl, hw14⟩; subst w14; clear H2)
         | (go_at_call 18; refine (Calls.mono H3.out) ?_; rintro e w14 ⟨rfl, hw14⟩; subst w14; clear H3)
         | (go_at_call 18; refine (Calls.mono H4.out) ?_; rintro e w14 ⟨rfl, hw14⟩; subst w14; clear H4)
         | (go_at_call 18; refine (Calls.mono H5.out) ?_; rintro e w14 ⟨rfl, hw14⟩; subst w14; clear H5)
         | (go_at_call 18; refine (Calls.mono H6.out) ?_; rintro e w14 ⟨rfl, hw14⟩; subst w14; clear H6)
         | (go_at_call 18; refine (Calls.mono H7.out) ?_; rintro e w14 ⟨rfl, hw14⟩; subst w14; clear H7)
         | (go_at_call 21; refine (Calls.mono H8.out) ?_; rintro e w11 ⟨rfl, HO11⟩; clear H8))
        go_cut [245] from 209 to 246 (fun v wx => v = .bool false /\ OneR w9 (.slice oa ab.length ca) ab wx)
        case first =>
         clear HU HUS HX HT HLT HPK HO
         cases o <;> cases t <;> cases m <;> cases own
         all_goals
          as_aux_lemma =>
           go_wp2_with fail
           go_meet
           exact ⟨rfl, HO11.out⟩
        case rest =>
         as_aux_lemma =>
          obtain ⟨rfl, hO12⟩ := hcut
          have HO12 : Hid (OneR w9 (.slice oa ab.length ca) ab wc) := hO12
          clear hO12 HO11
          go_wp2
          go_roundw
          case rel => exact ⟨4 + 1, by go_num, by omega, HO12.out⟩
          case measure => simp [intOf]
       ·obtain rfl : k = 5 := by omega
        have HEN : Hid (Below w.heap.size w wr) := (HX.out wr HO.out.below).1.below
        go_wp2
        go_ret
        exact ⟨rfl, HEN.out⟩
end Go.Proofs.YtalmoiogbdahcaaGreat
