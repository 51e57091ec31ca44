import Derived.Test.YtalmoiogbdahcaaGreatVSetA
import Derived.Test.YtalmoiogbdahcaaGreatZKrlA
import Derived.Test.YtalmoiogbdahcaaGreatYRefH
import Derived.Test.YtalmoiogbdahcaaGreatZLawP
import Derived.Test.YtalmoiogbdahcaaGreatYTieC0
import Derived.Test.YtalmoiogbdahcaaGreatZKrlC
import Derived.Test.YtalmoiogbdahcaaGreatZKrlB
import Derived.Test.YtalmoiogbdahcaaGreatYGhG
namespace Go.Proofs.YtalmoiogbdahcaaGreat
set_option maxRecDepth 100000
set_option maxHeartbeats 8000000
open Go.RowKit
def editorB : ByteArray := ⟨#[101, 100, 105, 116, 111, 114]⟩
set_option maxRecDepth 100000
open Go.RowKit Go.Shelf
def kSuf (k : Nat) : ByteArray := if k = 0 then ⟨#[35, 109, 101, 109, 98, 101, 114]⟩ else if k = 1 then ⟨#[35, 114, 101, 97, 100, 101, 114]⟩ else if k = 2 then ⟨#[35, 101, 100, 105, 116, 111, 114]⟩ else if k = 3 then ⟨#[35, 111, 119, 110, 101, 114]⟩ else if k = 4 then ⟨#[35, 98, 111, 116, 104]⟩ else ⟨#[35, 112, 97, 114, 101, 110, 116]⟩
def kNd (k a : Nat) : ByteArray := (if k = 0 then ⟨#[103, 114, 111, 117, 112, 58]⟩ else ⟨#[100, 111, 99, 58]⟩) ++ letS a ++ kSuf k
def kRel (k : Nat) : ByteArray := if k = 0 then memberB else if k = 1 then readerB else if k = 2 then editorB else if k = 3 then ownerB else if k = 4 then bothB else parentB
def kNN (k a : Nat) : Nod := ⟨if k = 0 then groupB else docB, letS a, kRel k⟩
theorem kNode_k (c : Int) (v k : Nat) (w : World) (hp : Calls Tryz.prog 17 #[.int .i64 c, .int .i64 1099511627776] w fun e w' => e = .returned (.int .i64 (v : Nat)) /\ w' = w) (hk : k < 6) (hm : v % 6 = k) (hv : v <= 1099511627776) :
  Calls Tryz.prog 22 #[.int .i64 c] w fun e w' => e = .returned (.string (kNd k (v / 16))) /\ Below w.heap.size w w' := by
 have q16 : (v : Int).tdiv 16 = ((v / 16 : Nat) : Int) := quo_nat v 16
 have r6 : (v : Int).tmod 6 = ((v % 6 : Nat) : Int) := rem_nat v 6
 have HA : Hid (∀ w1, Calls Tryz.prog 16 #[.int .i64 ((v / 16 : Nat) : Int)] w1 fun e w' => e = .returned (.string (letS (v / 16))) /\ Below w1.heap.size w1 w') := fun w1 => letter_any (v / 16) w1 (by omega)
 have sa := letS_size (v / 16)
 have w16 : wrap64 ((v / 16 : Nat) : Int) = ((v / 16 : Nat) : Int) := wrap_small (by omega) (by omega)
 have HT : Hid (kNd k (v / 16) = (if k = 0 then ⟨#[103, 114, 111, 117, 112, 58]⟩ else ⟨#[100, 111, 99, 58]⟩) ++ letS (v / 16) ++ kSuf k) := rfl
 rw [hm] at r6
 generalize kNd k (v / 16) = T at *
 generalize letS (v / 16) = la at *
 generalize ((v / 16 : Nat) : Int) = n16 at *
 clear hm
 have hcs : k = 0 \/ k = 1 \/ k = 2 \/ k = 3 \/ k = 4 \/ k = 5 := by omega
 clear hk
 rcases hcs with rfl | rfl | rfl | rfl | rfl | rfl
 all_goals
  go_enter Tryz.func22, Tryz.ntmps22
  go_wp2_with (first | (go_at_call 17; refine hp.mono ?_; rintro e w1 ⟨rfl, rfl⟩) | (go_at_call 16; refine (HA.out _).mono ?_; rintro e w2 ⟨rfl, hb2⟩))
  go_ret
  refine ⟨?_, hb2⟩
  rw [HT.out]
  rfl
theorem kNN_nm (k a : Nat) (hk : k < 6) : ∃ kk rr, NmN (kNN k a) kk (letS a).data.toList (some rr) /\ (kNd k a).data.toList = kk ++ 58 :: ((letS a).data.toList ++ 35 :: rr) := by
 have h : k = 0 \/ k = 1 \/ k = 2 \/ k = 3 \/ k = 4 \/ k = 5 := by omega
 rcases h with rfl | rfl | rfl | rfl | rfl | rfl
 ·exact ⟨_, _, gN_nm a, by simp [kNd, kSuf, groupB, memberB]⟩
 ·exact ⟨_, _, dN_nm (r := readerB) (by decide +kernel) a, by simp [kNd, kSuf, docB, readerB]⟩
 ·exact ⟨_, _, dN_nm (r := editorB) (by decide +kernel) a, by simp [kNd, kSuf, docB, editorB]⟩
 ·exact ⟨_, _, dN_nm (r := ownerB) (by decide +kernel) a, by simp [kNd, kSuf, docB, ownerB]⟩
 ·exact ⟨_, _, dN_nm (r := bothB) (by decide +kernel) a, by simp [kNd, kSuf, docB, bothB]⟩
 ·exact ⟨_, _, dN_nm (r := parentB) (by decide +kernel) a, by simp [kNd, kSuf, docB, parentB]⟩
theorem kNN_has0 : ∀ k, k < 6 -> hasR krules (kNN k 0) = true := by decide +kernel
theorem kNd_que (k a : Nat) (hk : k < 6) : queOk (kNd k a) = true /\ queC (kNd k a) = false /\ queX (kNd k a) = kNN k a /\ hasR krules (queX (kNd k a)) = true /\ (kNd k a).size <= maxLen := by
 obtain ⟨kk, rr, h, ht⟩ := kNN_nm k a hk
 obtain ⟨h1, h2, h3, -⟩ := que_no h.hk h.hn (h.ho _ rfl) ht
 have hx : queX (kNd k a) = kNN k a := by rw [h3, h.e]; rfl
 refine ⟨h1, h2, hx, ?_, ?_⟩
 ·rw [hx]
  have e : hasR krules (kNN k a) = hasR krules (kNN k 0) := rfl
  rw [e]; exact kNN_has0 k hk
 ·have e : (kNd k a).size = (kNd k a).data.toList.length := by rw [Array.length_toList]; rfl
  rw [e, ht]
  have a1 := nameL_len h.hk
  have a2 := nameL_len h.hn
  have a3 := nameL_len (h.ho _ rfl)
  have := big_max
  simp only [List.length_append, List.length_cons]
  omega
theorem kAsk_who (HN : Hid NodeC) (HW : Hid TWayC) {w : World} {B gb : Nat} {g : Pg} {m : List (Value × Value)} {lo : Nat} {now : List ByteArray} (kg : KG w B gb g m lo krules now) {k : Nat} (hk : k < 6) (a : Nat) :
  Calls Tryz.prog 19 #[.pointer (some ⟨gb, 0, none⟩), .string (kNd k a)] w fun e w' => ∃ o c zs, e = .returned (.tuple #[.slice o zs.length c, .bool true]) /\ Below w.heap.size w w' /\ Sorted zs /\ zs.length <= 50 /\ StrT w' (.slice o zs.length c) zs /\ ∀ z, z ∈ zs ↔ ∃ u, InN (tsOf now) krules u (kNN k a) /\ thT u = z := by
 obtain ⟨q1, q2, q3, q4, q5⟩ := kNd_que k a hk
 refine (kWho_any (expand_any HN HW (kg.gate (kNd k a) q5) (kNd k a) q5 (fun h _ => queOk_of h krules now) (que_sizesK (kNd k a) q5))).mono ?_
 rintro e w' ⟨o, n, c, er, rfl, hb, he, zs, rfl, hso, hzl, hown, hz⟩
 have e0 : er = 0 := by rw [he, q1, q2, q4]; rfl
 subst e0
 rw [if_pos rfl, q3] at hz
 exact ⟨o, c, zs, rfl, hb, hso, hzl, owns_strT hown, hz⟩
theorem kT_minus0 : ∀ k, k < 9 -> ∀ a, a < 4 -> ∀ b, b < 4 -> faultS (ruleOfs krules) (⟨#[45]⟩ ++ kT k a b) = 0 /\ (⟨#[45]⟩ ++ kT k a b).size <= 100 := by decide +kernel
theorem kT_minus (k a b : Nat) (hk : k < 9) : faultS (ruleOfs krules) (⟨#[45]⟩ ++ kT k a b) = 0 /\ (⟨#[45]⟩ ++ kT k a b).size <= 100 := by
 rw [kT_mod]; exact kT_minus0 k hk _ (by omega) _ (by omega)
theorem minus_done (now : List ByteArray) (s : ByteArray) : doneS now (⟨#[45]⟩ ++ s) = withL now s false := by
 unfold doneS
 have e1 : (⟨#[45]⟩ ++ s : ByteArray).extract 1 (⟨#[45]⟩ ++ s : ByteArray).size = s := by
  refine ByteArray.ext (Array.ext' ?_)
  simp
  have h1 : ({ data := #[45] } : ByteArray).size = 1 := rfl
  rw [h1, List.take_of_length_le]
  rw [Array.length_toList]
  show s.size <= 1 + s.size - 1
  omega
 have e2 : byteAt (⟨#[45]⟩ ++ s) 0 = 45 := by
  unfold byteAt; simp
 rw [e1, e2]; rfl
theorem mem_without {l : List ByteArray} (hs : Sorted l) (x s : ByteArray) : s ∈ withL l x false ↔ s ∈ l /\ s ≠ x := by
 obtain ⟨i, hp⟩ := place_ex hs x
 rw [with_place hs hp]
 have hlow := place_low hp
 rcases place_high hs hp with ⟨h1, h2, h3⟩ | ⟨h1, h2⟩
 ·rw [if_pos h1, if_neg (by decide)]
  unfold delL
  constructor
  ·intro h
   rcases List.mem_append.1 h with h | h
   ·exact ⟨List.mem_of_mem_take h, lt_ne (hlow s h)⟩
   ·exact ⟨List.mem_of_mem_drop h, (h3 s h).2⟩
  ·rintro ⟨h, hne⟩
   rw [h2] at h
   rcases List.mem_append.1 h with h | h
   ·exact List.mem_append_left _ h
   ·rcases List.mem_cons.1 h with h | h
    ·exact absurd h hne
    ·exact List.mem_append_right _ h
 ·rw [if_neg h1, if_neg (by decide)]
  constructor
  ·intro h
   refine ⟨h, ?_⟩
   rw [← List.take_append_drop i l] at h
   rcases List.mem_append.1 h with h | h
   ·exact lt_ne (hlow s h)
   ·exact (h2 s h).2
  ·exact fun h => h.1
theorem kSame_any (v u : Value) (xs ys : List ByteArray) (w : World) (h : StrsAt w v xs) (g : StrsAt w u ys) (hl : xs.length <= maxLen) (gl : ys.length <= maxLen) :
  Calls Tryz.prog 25 #[v, u] w fun e w' => e = .returned (.bool (sameL xs ys)) /\ ∃ n, w' = w.drewN n := by
 unfold maxLen at hl gl
 by_cases hne : xs.length = ys.length
 ·rcases h with ⟨rfl, rfl⟩ | ⟨b, off, cap, rfl, hc⟩
  ·have hy : ys = [] := List.eq_nil_of_length_eq_zero hne.symm
   subst hy
   rcases g with ⟨rfl, -⟩ | ⟨b', off', cap', rfl, gc⟩
   all_goals
    go_enter Tryz.func25, Tryz.ntmps25
    go_wp2
    refine wp_loop_rounds 1 ?_
    rw [rounds_succ]
    go_wp2
    go_ret
    exact ⟨rfl, ⟨0, rfl⟩⟩
  ·rcases g with ⟨rfl, rfl⟩ | ⟨b', off', cap', rfl, gc⟩
   ·have hx : xs = [] := List.eq_nil_of_length_eq_zero hne
    subst hx
    go_enter Tryz.func25, Tryz.ntmps25
    go_wp2
    refine wp_loop_rounds 1 ?_
    rw [rounds_succ]
    go_wp2
    go_ret
    exact ⟨rfl, ⟨0, rfl⟩⟩
   ·obtain ⟨n, hn⟩ : ∃ n, xs.length = n := ⟨_, rfl⟩
    have HX : Hid (xs.length = n) := hn
    have HY : Hid (ys.length = n) := by show _ = _; omega
    rw [← hne, hn]
    rw [hn] at hl
    clear hn hne gl
    go_enter Tryz.func25, Tryz.ntmps25
    go_wp2
    go_loopw [5] (fun i wr => ∃ k d : Nat, k <= n /\ i = .int .i64 k /\ wr = w.drewN d /\ xs.take k = ys.take k) (fun i _ => n - (intOf i).toNat)
    case atStart => exact ⟨0, 0, Nat.zero_le _, rfl, rfl, rfl⟩
    case round =>
     obtain ⟨k, d, hk, rfl, rfl, hh⟩ := hrel
     have HH : Hid (xs.take k = ys.take k) := hh
     clear hh
     by_cases hlt : k < n
     ·have hkx : k < xs.length := by have := HX.out; omega
      have hky : k < ys.length := by have := HY.out; omega
      obtain ⟨x, hx⟩ : ∃ x, xs[k] = x := ⟨_, rfl⟩
      obtain ⟨y, hy⟩ : ∃ y, ys[k] = y := ⟨_, rfl⟩
      have h1 := hc k x (by rw [List.getElem?_eq_getElem hkx, hx])
      have h2 := gc k y (by rw [List.getElem?_eq_getElem hky, hy])
      have HZ : Hid (xs.take (k + 1) = xs.take k ++ [x] /\ ys.take (k + 1) = ys.take k ++ [y]) := ⟨by rw [List.take_succ_eq_append_getElem hkx, hx], by rw [List.take_succ_eq_append_getElem hky, hy]⟩
      have HW : Hid (xs = ys -> x = y) := by
       intro e; subst e; rw [← hx, ← hy]
      clear hkx hky hx hy hc gc
      by_cases hq : (x.toList == y.toList) = true
      ·go_wp2
       go_quiet (fail)
       go_wp2
       go_roundw
       case rel => exact ⟨k + 1, d + nq, by omega, by go_num, rfl, by rw [HZ.out.1, HZ.out.2, HH.out]; rw [byte_eq, decide_eq_true_eq] at hq; rw [hq]⟩
       case measure => simp [intOf]; omega
      ·have hq : (x.toList == y.toList) = false := by simpa using hq
       go_wp2
       go_quiet (fail)
       go_wp2
       go_ret
       refine ⟨ret_bool ?_, ⟨d + nq, drewN_two w d nq⟩⟩
       symm
       refine decide_eq_false (fun e => ?_)
       rw [byte_eq, decide_eq_false_iff_not] at hq
       exact hq (HW.out e)
     ·go_wp2
      go_ret
      refine ⟨ret_bool ?_, ⟨_, rfl⟩⟩
      have := HH.out
      rw [List.take_of_length_le (by have := HX.out; omega), List.take_of_length_le (by have := HY.out; omega)] at this
      exact (decide_eq_true this).symm
 ·have hb : ((xs.length : Int) != (ys.length : Int)) = true := by simp; omega
  have hs : sameL xs ys = false := decide_eq_false (fun e => hne (by rw [e]))
  rw [hs]
  clear hs
  rcases h with ⟨rfl, rfl⟩ | ⟨b, off, cap, rfl, hc⟩
  ·rcases g with ⟨rfl, rfl⟩ | ⟨b', off', cap', rfl, gc⟩
   ·exact absurd rfl hne
   ·have hb : ((0 : Int) != (ys.length : Int)) = true := hb
    go_enter Tryz.func25, Tryz.ntmps25
    go_wp2
    go_ret
    exact ⟨rfl, ⟨0, rfl⟩⟩
  ·rcases g with ⟨rfl, rfl⟩ | ⟨b', off', cap', rfl, gc⟩
   ·have hb : ((xs.length : Int) != (0 : Int)) = true := hb
    go_enter Tryz.func25, Tryz.ntmps25
    go_wp2
    go_ret
    exact ⟨rfl, ⟨0, rfl⟩⟩
   ·go_enter Tryz.func25, Tryz.ntmps25
    go_wp2
    go_ret
    exact ⟨rfl, ⟨0, rfl⟩⟩
def StrK (w w' : World) : Prop := ∀ (k : Nat) (cur : List Value), w.heap[k]? = some (.cells cur.toArray 9 (0, 0)) -> w'.heap[k]? = w.heap[k]?
theorem StrK.of_below {w w' : World} (h : Below w.heap.size w w') : StrK w w' := fun k _ hk => h.block k (row_lt hk)
theorem StrK.of_kept {w w' : World} {gb : Nat} {g : Pg} (h : w.grownBy w' (some gb)) (hg : PgAt w gb g) : StrK w w' := fun k cur hk => h.block k (row_lt hk) (by
 intro e
 injection e with e
 subst e
 unfold PgAt at hg
 rw [hk] at hg
 injection hg with hg
 injection hg with _ hg
 revert hg; decide)
theorem StrK.trans {a b c : World} (h : StrK a b) (g : StrK b c) : StrK a c := fun k cur hk => by
 have h1 := h k cur hk
 rw [g k cur (h1.trans hk), h1]
theorem StrK.strT {w w' : World} (h : StrK w w') {v : Value} {xs : List ByteArray} (hs : StrT w v xs) : StrT w' v xs := hs.move h
structure GSt (W : World) (gb : Nat) (n : Int) (now : List ByteArray) (w : World) : Prop where
 kg : ∃ g m lo, g.ver <= n /\ KG w W.heap.size gb g m lo krules now
 below : Below W.heap.size W w
theorem GSt.later {W : World} {gb : Nat} {n : Int} {now : List ByteArray} {w w' : World} (h : GSt W gb n now w) (hb : Below w.heap.size w w') : GSt W gb n now w' := by
 obtain ⟨g, m, lo, h1, h2⟩ := h.kg
 exact ⟨⟨g, m, lo, h1, h2.later hb⟩, h.below.trans (hb.mono h.below.size)⟩
theorem g_open (HN : Hid NodeC) (HW : Hid TWayC) (W : World) : Calls Tryz.prog 14 #[.int .i64 2, .int .i64 2] W fun e w' => ∃ gb, e = .returned (.pointer (some ⟨gb, 0, none⟩)) /\ GSt W gb 1 know0 w' := by
 refine (kOpen_any HN HW W 2 2 (by decide) (by decide) (by decide) (by decide)).mono ?_
 rintro e w' ⟨gb, g, m, lo, rfl, hb, hv, kg⟩
 exact ⟨gb, rfl, ⟨g, m, lo, by omega, kg⟩, hb⟩
theorem g_put {W : World} {rv : Value} {cs : List Int} (hr : IntsAt W rv cs) (hcs : ∀ c ∈ cs, -9223372036854775808 <= c /\ c <= 9223372036854775807) (hl : cs.length <= 9223372036854775807) {gb : Nat} {n : Int} {now : List ByteArray} {w1 : World} (h : GSt W gb n now w1) (hn : n <= 1000) (hnl : now.length <= 30) :
  Calls Tryz.prog 15 #[.pointer (some ⟨gb, 0, none⟩), rv, .int .i64 20] w1 fun e wP => ∃ o c, e = .returned (.tuple #[.slice o (putL cs 20).length c, .bool true]) /\ GSt W gb (n + 20) (putN now (putL cs 20)) wP /\ StrK w1 wP /\ StrT wP (.slice o (putL cs 20).length c) (putL cs 20) := by
 obtain ⟨g, m, lo, hv, kg⟩ := h.kg
 have hb := h.below
 have hr1 : IntsAt w1 rv cs := by
  rcases hr with h | ⟨b, off, cap, rfl, hbl, hc⟩
  ·exact Or.inl h
  ·exact Or.inr ⟨b, off, cap, rfl, Nat.lt_of_lt_of_le hbl hb.size, fun i c h => (hb.cell (p := ⟨b, off + i, none⟩) hbl).trans (hc i c h)⟩
 have hB : ∀ b off n cap, rv = .slice (some ⟨b, off, none⟩) n cap -> n ≠ 0 -> b ≠ gb := by
  intro b off n cap e hn
  rcases hr with ⟨⟨x, c, e2⟩, -⟩ | ⟨b', off', cap', e2, hbl, -⟩
  ·rw [e2] at e; injection e with _ e _; omega
  ·rw [e2] at e
   injection e with e _ _
   injection e with e
   injection e with e
   have := kg.gB
   omega
 refine (kPut_any kg (by omega) 20 (by decide) (by omega) hr1 hB hcs hl).mono ?_
 rintro e wP ⟨o, c, rfl, hI⟩
 obtain ⟨g', hv', kg'⟩ := hI.kg
 have hlen := putL_len cs 20
 exact ⟨o, c, rfl, ⟨⟨g', m, lo, by omega, kg'⟩, hb.grown hI.kept hb.size (fun j hj => by injection hj with hj; rw [← hj]; exact kg.gB)⟩, StrK.of_kept hI.kept kg.pg, owns_strT hI.own⟩
theorem g_who (HN : Hid NodeC) (HW : Hid TWayC) {W : World} {gb : Nat} {n : Int} {now : List ByteArray} {w : World} (h : GSt W gb n now w) {k : Nat} (hk : k < 6) (a : Nat) :
  Calls Tryz.prog 19 #[.pointer (some ⟨gb, 0, none⟩), .string (kNd k a)] w fun e w' => ∃ o c zs, e = .returned (.tuple #[.slice o zs.length c, .bool true]) /\ GSt W gb n now w' /\ StrK w w' /\ Sorted zs /\ zs.length <= 50 /\ StrT w' (.slice o zs.length c) zs /\ ∀ z, z ∈ zs ↔ ∃ u, InN (tsOf now) krules u (kNN k a) /\ thT u = z := by
 obtain ⟨g, m, lo, hv, kg⟩ := h.kg
 refine (kAsk_who HN HW kg hk a).mono ?_
 rintro e w' ⟨o, c, zs, rfl, hb, h1, h2, h3, h4⟩
 exact ⟨o, c, zs, rfl, h.later hb, StrK.of_below hb, h1, h2, h3, h4⟩
theorem g_tuples {W : World} {gb : Nat} {n : Int} {now : List ByteArray} {w : World} (h : GSt W gb n now w) :
  Calls Tryz.prog 23 #[.pointer (some ⟨gb, 0, none⟩)] w fun e w' => ∃ o c, e = .returned (.slice o now.length c) /\ GSt W gb n now w' /\ StrK w w' /\ StrT w' (.slice o now.length c) now := by
 obtain ⟨g, m, lo, hv, kg⟩ := h.kg
 refine (tuples_any gb g now w kg.pg kg.lk kg.tv.strs kg.nl (strT_ne kg.tv kg.pg (by decide))).mono ?_
 rintro e w' ⟨v, rfl, hown, hpg, hk⟩
 obtain ⟨o, c, rfl⟩ := owns_form hown
 have sk : SK (onlyB gb) w w' := SK.gate hk (cs := g.cells) kg.pg (by decide) rfl
 refine ⟨o, c, rfl, ⟨⟨g, m, lo, hv, ?_⟩, h.below.grown hk h.below.size (fun j hj => by injection hj with hj; rw [← hj]; exact kg.gB)⟩, StrK.of_kept hk kg.pg, owns_strT hown⟩
 exact { kg with pg := hpg, map := sk.mapAt kg.map, rmap := sk.rmap kg.rmap, tv := sk.strT kg.tv }
theorem g_minus {W : World} {gb : Nat} {n : Int} {now : List ByteArray} {w : World} (h : GSt W gb n now w) (hn : n <= 1000) (s : ByteArray) (HF : Hid (faultS (ruleOfs krules) (⟨#[45]⟩ ++ s) = 0)) (hsz : (⟨#[45]⟩ ++ s : ByteArray).size <= 100) :
  Calls Tryz.prog 24 #[.pointer (some ⟨gb, 0, none⟩), .slice (some ⟨w.heap.size, 0, none⟩) 1 1] (w.alloc (.cells #[.string (⟨#[45]⟩ ++ s)] 9)) fun e w' => ∃ v : Int, e = .returned (.tuple #[.int .i64 v, .int .i64 0, .int .i64 0]) /\ GSt W gb (n + 1) (withL now s false) w' /\ StrK w w' := by
 have hb : Below w.heap.size w (w.alloc (.cells #[.string (⟨#[45]⟩ ++ s)] 9)) := (Below.refl _ _).alloc (Nat.le_refl _) _
 obtain ⟨g, m, lo, hv, kg⟩ := (h.later hb).kg
 obtain ⟨g0, m0, lo0, -, kg0⟩ := h.kg
 obtain ⟨i, hp⟩ := place_ex kg.sorted s
 have hso := with_sorted kg.sorted hp false
 have hlen : (withL now s false).length <= 50 := Nat.le_trans (nodup_sub_len _ _ (sorted_nodup hso) fun a ha => ((mem_without kg.sorted s a).1 ha).1) kg.nl
 refine (kg.write1 (by omega) (s := ⟨#[45]⟩ ++ s) (by omega) HF.out (by rw [minus_done]; exact hlen) (by rw [minus_done]; exact hso) w.heap.size 1 (by have := row_lt kg0.pg; omega) (row_cell (alloc_new w [.string (⟨#[45]⟩ ++ s)] _) (j := 0) rfl)).mono ?_
 rintro e w' ⟨rfl, hk, v, -, kg'⟩
 rw [minus_done] at kg'
 have hbl := (h.later hb).below
 exact ⟨_, rfl, ⟨⟨_, m, lo, by show g.ver + 1 <= n + 1; omega, kg'⟩, hbl.grown hk hbl.size (fun j hj => by injection hj with hj; rw [← hj]; exact kg.gB)⟩, (StrK.of_below hb).trans (StrK.of_kept hk kg.pg)⟩
def remN (all now : List ByteArray) (l : List ByteArray) : List ByteArray := l.foldl (fun n s => if hasL all s = true then n else withL n s false) now
theorem remN_ok (all : List ByteArray) : ∀ (l now : List ByteArray), Sorted now -> Sorted (remN all now l) /\ ∀ s, s ∈ remN all now l ↔ s ∈ now /\ ¬ (s ∈ l /\ s ∉ all) := by
 intro l
 induction l with
 | nil => intro now h; exact ⟨h, fun s => by simp [remN]⟩
 | cons a l ih =>
  intro now h
  by_cases ha : hasL all a = true
  ·have e : remN all now (a :: l) = remN all now l := by unfold remN; rw [List.foldl_cons, if_pos ha]
   rw [e]
   obtain ⟨h1, h2⟩ := ih now h
   refine ⟨h1, fun s => ?_⟩
   rw [h2]
   have hm := hasL_iff.1 ha
   constructor
   ·rintro ⟨q1, q2⟩
    refine ⟨q1, fun ⟨q3, q4⟩ => ?_⟩
    rcases List.mem_cons.1 q3 with e | e
    ·rw [e] at q4; exact q4 hm
    ·exact q2 ⟨e, q4⟩
   ·rintro ⟨q1, q2⟩
    exact ⟨q1, fun ⟨q3, q4⟩ => q2 ⟨List.mem_cons_of_mem _ q3, q4⟩⟩
  ·have e : remN all now (a :: l) = remN all (withL now a false) l := by unfold remN; rw [List.foldl_cons, if_neg ha]
   rw [e]
   obtain ⟨i, hp⟩ := place_ex h a
   obtain ⟨h1, h2⟩ := ih (withL now a false) (with_sorted h hp false)
   refine ⟨h1, fun s => ?_⟩
   rw [h2, mem_without h]
   have hm : a ∉ all := fun e => ha (hasL_iff.2 e)
   constructor
   ·rintro ⟨⟨q1, q2⟩, q3⟩
    refine ⟨q1, fun ⟨q4, q5⟩ => ?_⟩
    rcases List.mem_cons.1 q4 with e | e
    ·exact q2 e
    ·exact q3 ⟨e, q5⟩
   ·rintro ⟨q1, q2⟩
    exact ⟨⟨q1, fun e => q2 ⟨by rw [e]; exact List.mem_cons_self .., by rw [e]; exact hm⟩⟩, fun ⟨q3, q4⟩ => q2 ⟨List.mem_cons_of_mem _ q3, q4⟩⟩
theorem remN_snoc (all now l : List ByteArray) (s : ByteArray) : remN all now (l ++ [s]) = if hasL all s = true then remN all now l else withL (remN all now l) s false := by
 unfold remN; rw [List.foldl_append]; rfl
theorem remN_all {all l : List ByteArray} (h : Sorted all) : remN all (putN all l) l = all := by
 obtain ⟨p1, -, p3⟩ := putN_ok l all h
 obtain ⟨r1, r2⟩ := remN_ok all l (putN all l) p1
 refine sorted_ext _ _ r1 h fun s => ?_
 rw [r2, p3]
 constructor
 ·rintro ⟨q1 | q1, q2⟩
  ·exact q1
  ·exact Classical.byContradiction fun hn => q2 ⟨q1, hn⟩
 ·intro q; exact ⟨Or.inl q, fun ⟨_, q2⟩ => q2 q⟩
theorem strT_cell {w : World} {o : Option Addr} {c : Nat} {xs : List ByteArray} (h : StrT w (.slice o xs.length c) xs) {k : Nat} {x : ByteArray} (hx : xs[k]? = some x) : ∃ b, o = some ⟨b, 0, none⟩ /\ w.cell? ⟨b, k, none⟩ = some (.string x) := by
 rcases h with ⟨-, e⟩ | ⟨b, cap, cur, e, h1, h2⟩
 ·rw [e] at hx; simp at hx
 ·injection e with e _ _
  refine ⟨b, e, row_cell h1 ?_⟩
  have := strV_get hx
  rw [← h2] at this
  have hk : k < xs.length := (List.getElem?_eq_some_iff.1 hx).1
  rw [List.getElem?_take_of_lt hk] at this
  exact this
theorem g_has {w : World} {v : Value} {xs : List ByteArray} (h : StrT w v xs) (hl : xs.length <= 100) (s : ByteArray) : Calls Tryz.prog 18 #[v, .string s] w fun e w' => e = .returned (.bool (hasL xs s)) /\ w' = w := kHas_any v xs s w h.strs (by unfold maxLen; omega)
theorem g_same {w : World} {v u : Value} {xs : List ByteArray} (h : StrT w v xs) (g : StrT w u xs) (hl : xs.length <= 100) : Calls Tryz.prog 25 #[v, u] w fun e w' => e = .returned (.bool true) /\ Below w.heap.size w w' := by
 refine (kSame_any v u xs xs w h.strs g.strs (by unfold maxLen; omega) (by unfold maxLen; omega)).mono ?_
 rintro e w' ⟨rfl, hd⟩
 exact ⟨by simp [sameL], below_draw hd⟩
theorem ts_sub {all now : List ByteArray} (h : ∀ s ∈ all, s ∈ now) : ∀ t ∈ tsOf all, t ∈ tsOf now := by
 intro t ht
 obtain ⟨s, hs, rfl⟩ := List.mem_map.1 ht
 exact List.mem_map.2 ⟨s, h s hs, rfl⟩
theorem inN_sub {all now : List ByteArray} (h : ∀ s ∈ all, s ∈ now) {u x : Nod} (hi : InN (tsOf all) krules u x) : InN (tsOf now) krules u x := by
 obtain ⟨h1, ⟨t, ht, e⟩, h3⟩ := hi
 exact ⟨h1, ⟨t, ts_sub h t ht, e⟩, Std.sub (ts_sub h) h3⟩
theorem putL_text {cs : List Int} {n : Nat} {s : ByteArray} (h : s ∈ putL cs n) : faultS (ruleOfs krules) (⟨#[45]⟩ ++ s) = 0 /\ (⟨#[45]⟩ ++ s : ByteArray).size <= 100 := by
 obtain ⟨c, -, rfl⟩ := List.mem_map.1 h
 exact kT_minus _ _ _ (by omega)
theorem kNodeU (c : Int) (h1 : -9223372036854775808 <= c) (h2 : c <= 9223372036854775807) :
  ∃ k a, k < 6 /\ ∀ w, Calls Tryz.prog 22 #[.int .i64 c] w fun e w' => e = .returned (.string (kNd k a)) /\ Below w.heap.size w w' := by
 have hp := fun w => kPick_any c 1099511627776 w h1 h2 (by decide) (by decide)
 obtain ⟨b1, b2⟩ := pickN_bd c 1099511627776 (by decide)
 obtain ⟨v, hv⟩ := Int.eq_ofNat_of_zero_le b1
 rw [hv] at hp b2
 exact ⟨v % 6, v / 16, by omega, fun w => kNode_k c v (v % 6) w (hp w) (by omega) rfl (by omega)⟩
theorem GSt.more {W : World} {gb : Nat} {n n' : Int} {now : List ByteArray} {w : World} (h : GSt W gb n now w) (hn : n <= n') : GSt W gb n' now w := by
 obtain ⟨g, m, lo, h1, h2⟩ := h.kg
 exact ⟨⟨g, m, lo, by omega, h2⟩, h.below⟩
structure GLoop (W : World) (gb : Nat) (all now l zs1 : List ByteArray) (va v1 lv : Value) (k : Nat) (w : World) : Prop where
 st : GSt W gb (100 + k) (remN all now (l.take k)) w
 a : StrT w va all
 b : StrT w v1 zs1
 l : StrT w lv l
theorem grown_any (HN : Hid NodeC) (HW : Hid TWayC) {w : World} {rv1 rv2 : Value} {cs1 cs2 : List Int} (hr1 : IntsAt w rv1 cs1) (hc1 : ∀ c ∈ cs1, -9223372036854775808 <= c /\ c <= 9223372036854775807) (hl1 : cs1.length <= 9223372036854775807) (hr2 : IntsAt w rv2 cs2) (hc2 : ∀ c ∈ cs2, -9223372036854775808 <= c /\ c <= 9223372036854775807) (hl2 : cs2.length <= 9223372036854775807) (wh : Int) (hw1 : -9223372036854775808 <= wh) (hw2 : wh <= 9223372036854775807) :
  Calls Tryz.prog 8 #[rv1, rv2, .int .i64 wh] w fun e w' => e = .returned (.bool true) /\ Below w.heap.size w w' := by
 have HOP : Hid (Calls Tryz.prog 14 #[.int .i64 2, .int .i64 2] w _) := g_open HN HW w
 obtain ⟨rx1, rn1, rc1, hrv1⟩ : ∃ x n c, rv1 = .slice x n c := by
  rcases hr1 with ⟨⟨x, c, e⟩, -⟩ | ⟨b, off, cap, e, -⟩
  ·exact ⟨_, _, _, e⟩
  ·exact ⟨_, _, _, e⟩
 have HP1 : Hid (∀ (gb : Nat) (w1 : World), GSt w gb 1 know0 w1 -> Calls Tryz.prog 15 #[.pointer (some ⟨gb, 0, none⟩), rv1, .int .i64 20] w1 fun e wP => ∃ o c, e = .returned (.tuple #[.slice o (putL cs1 20).length c, .bool true]) /\ GSt w gb 21 (putN know0 (putL cs1 20)) wP) := fun gb w1 h => by
  refine (g_put hr1 hc1 hl1 h (by decide) (by decide)).mono ?_
  rintro e wP ⟨o, c, he, h2, -, -⟩
  exact ⟨o, c, he, h2⟩
 obtain ⟨a1, a2, -⟩ := putN_ok (putL cs1 20) know0 know0_sorted
 have a3 := putL_len cs1 20
 have a4 : (putN know0 (putL cs1 20)).length <= 22 := by have : know0.length = 2 := rfl; omega
 have HSA : Hid (Sorted (putN know0 (putL cs1 20))) := a1
 obtain ⟨n1, hn1⟩ : ∃ n1, (putL cs1 20).length = n1 := ⟨_, rfl⟩
 rw [hn1] at HP1
 clear hn1 a1 a2 a3 hr1 hc1 hl1
 generalize putN know0 (putL cs1 20) = all at *
 have HP2 : Hid (∀ (gb : Nat) (w1 : World), GSt w gb 21 all w1 -> Calls Tryz.prog 15 #[.pointer (some ⟨gb, 0, none⟩), rv2, .int .i64 20] w1 fun e wP => ∃ o c, e = .returned (.tuple #[.slice o (putL cs2 20).length c, .bool true]) /\ GSt w gb 41 (putN all (putL cs2 20)) wP /\ StrK w1 wP /\ StrT wP (.slice o (putL cs2 20).length c) (putL cs2 20)) := fun gb w1 h => g_put hr2 hc2 hl2 h (by decide) (by omega)
 have HSB : Hid (∀ s ∈ all, s ∈ putN all (putL cs2 20)) := fun s hs => ((putN_ok (putL cs2 20) all HSA.out).2.2 s).2 (Or.inl hs)
 have HRM : Hid (remN all (putN all (putL cs2 20)) (putL cs2 20) = all) := remN_all HSA.out
 have HFT : Hid (∀ s ∈ putL cs2 20, faultS (ruleOfs krules) (⟨#[45]⟩ ++ s) = 0 /\ (⟨#[45]⟩ ++ s : ByteArray).size <= 100) := fun s hs => putL_text hs
 have b3 := putL_len cs2 20
 obtain ⟨k6, a6, hk6, hnd⟩ := kNodeU wh hw1 hw2
 have HND2 : Hid (∀ w1, Calls Tryz.prog 22 #[.int .i64 wh] w1 fun e w' => e = .returned (.string (kNd k6 a6)) /\ Below w1.heap.size w1 w') := hnd
 obtain ⟨rx2, rn2, rc2, hrv2⟩ : ∃ x n c, rv2 = .slice x n c := by
  rcases hr2 with ⟨⟨x, c, e⟩, -⟩ | ⟨b, off, cap, e, -⟩
  ·exact ⟨_, _, _, e⟩
  ·exact ⟨_, _, _, e⟩
 subst hrv1; subst hrv2
 have HWH : Hid (∀ (gb : Nat) (n : Int) (now : List ByteArray) (w1 : World), GSt w gb n now w1 -> Calls Tryz.prog 19 #[.pointer (some ⟨gb, 0, none⟩), .string (kNd k6 a6)] w1 fun e w' => ∃ o c zs, e = .returned (.tuple #[.slice o zs.length c, .bool true]) /\ GSt w gb n now w' /\ StrK w1 w' /\ Sorted zs /\ zs.length <= 50 /\ StrT w' (.slice o zs.length c) zs /\ ∀ z, z ∈ zs ↔ ∃ u, InN (tsOf now) krules u (kNN k6 a6) /\ thT u = z) := fun gb n now w1 h => g_who HN HW h hk6 a6
 clear hr2 hc2 hl2 hnd hw1 hw2 hk6 HN HW
 generalize hnow2 : putN all (putL cs2 20) = now2 at *
 generalize putL cs2 20 = l2 at *
 clear hnow2
 generalize kNd k6 a6 = nd at *
 generalize kNN k6 a6 = nn at *
 go_enter Tryz.func8, Tryz.ntmps8
 go_wp2_with (first
  | (go_at_call 14; refine HOP.out.mono ?_; rintro e w1 ⟨gb, rfl, h1⟩; have HPU : Hid (Calls Tryz.prog 15 #[.pointer (some ⟨gb, 0, none⟩), .slice rx1 rn1 rc1, .int .i64 20] w1 _) := HP1.out gb w1 h1; clear h1 HP1)
  | (go_at_call 15; refine HPU.out.mono ?_; rintro e w2 ⟨o2, c2, rfl, h2⟩; have HS2 : Hid (GSt w gb 21 all w2) := h2; clear h2 HPU)
  | (go_at_call 22; refine (HND2.out _).mono ?_; rintro e w3 ⟨rfl, hb3⟩; have HWA : Hid (Calls Tryz.prog 19 #[.pointer (some ⟨gb, 0, none⟩), .string nd] w3 _) := HWH.out gb 21 all w3 (HS2.out.later hb3); clear hb3)
  | (go_at_call 19; refine HWA.out.mono ?_; rintro e w4 ⟨o4, c4, zs1, rfl, h4, -, hso1, hz1, ht4, hm1⟩; have HZ1 : Hid (Sorted zs1 /\ ∀ z, z ∈ zs1 ↔ ∃ u, InN (tsOf all) krules u nn /\ thT u = z) := ⟨hso1, hm1⟩; have HT4 : Hid (StrT w4 (.slice o4 zs1.length c4) zs1) := ht4; have HTU : Hid (Calls Tryz.prog 23 #[.pointer (some ⟨gb, 0, none⟩)] w4 _) := g_tuples h4; clear h4 hso1 ht4 hm1 HWA)
  | (go_at_call 23; refine HTU.out.mono ?_; rintro e w5 ⟨o5, c5, rfl, h5, k5, t5⟩; have HT5 : Hid (StrT w5 (.slice o4 zs1.length c4) zs1 /\ StrT w5 (.slice o5 all.length c5) all) := ⟨k5.strT HT4.out, t5⟩; have HPV : Hid (Calls Tryz.prog 15 #[.pointer (some ⟨gb, 0, none⟩), .slice rx2 rn2 rc2, .int .i64 20] w5 _) := HP2.out gb w5 h5; clear h5 k5 t5 HTU)
  | (go_at_call 15; refine HPV.out.mono ?_; rintro e w6 ⟨o6, c6, rfl, h6, k6', t6⟩; have HT6 : Hid (StrT w6 (.slice o4 zs1.length c4) zs1 /\ StrT w6 (.slice o5 all.length c5) all /\ StrT w6 (.slice o6 l2.length c6) l2) := ⟨k6'.strT HT5.out.1, k6'.strT HT5.out.2, t6⟩; have HWB : Hid (Calls Tryz.prog 19 #[.pointer (some ⟨gb, 0, none⟩), .string nd] w6 _) := HWH.out gb 41 now2 w6 h6; clear h6 k6' t6 HPV)
  | (go_at_call 19; refine HWB.out.mono ?_; rintro e w7 ⟨o7, c7, zs2, rfl, h7, k7, -, hz2, t7, hm2⟩; have HS7 : Hid (GSt w gb 41 now2 w7) := h7; have HM2 : Hid (∀ z, z ∈ zs2 ↔ ∃ u, InN (tsOf now2) krules u nn /\ thT u = z) := hm2; have HT7 : Hid (StrT w7 (.slice o4 zs1.length c4) zs1 /\ StrT w7 (.slice o5 all.length c5) all /\ StrT w7 (.slice o6 l2.length c6) l2 /\ StrT w7 (.slice o7 zs2.length c7) zs2) := ⟨k7.strT HT6.out.1, k7.strT HT6.out.2.1, k7.strT HT6.out.2.2, t7⟩; clear h7 k7 t7 hm2 HWB))
 have HHN : Hid (∀ z ∈ zs1, hasL zs2 z = true) := fun z hz => by
  obtain ⟨u, hu, e⟩ := (HZ1.out.2 z).1 hz
  exact hasL_iff.2 ((HM2.out z).2 ⟨u, inN_sub HSB.out hu, e⟩)
 clear HT4 HT5 HT6 HS2
 go_loopw [17] (fun i wr => ∃ (k : Nat), i = .int .i64 k /\ k <= zs1.length /\ wr = w7) (fun i _ => zs1.length - (intOf i).toNat)
 case atStart => exact ⟨0, rfl, Nat.zero_le _, rfl⟩
 case round =>
  obtain ⟨k, rfl, hkl, rfl⟩ := hrel
  by_cases hlt : k < zs1.length
  ·obtain ⟨z, hz⟩ : ∃ z, zs1[k]? = some z := ⟨_, List.getElem?_eq_getElem hlt⟩
   obtain ⟨gx, hgx, hzc⟩ := strT_cell HT7.out.1 hz
   subst hgx
   have HHZ : Hid (Calls Tryz.prog 18 #[.slice o7 zs2.length c7, .string z] wr fun e w' => e = .returned (.bool true) /\ w' = wr) := by
    have := g_has HT7.out.2.2.2 (by omega) z
    rw [HHN.out z (List.mem_of_getElem? hz)] at this
    exact this
   clear hz
   go_wp2_with (go_at_call 18; refine HHZ.out.mono ?_; rintro e w8 ⟨rfl, hw8⟩; subst w8)
   go_roundw
   case rel => exact ⟨k + 1, by go_num, by omega, trivial⟩
   case measure => simp [intOf]; omega
  ·obtain rfl : k = zs1.length := by omega
   have HG0 : Hid (GLoop w gb all now2 l2 zs1 (.slice o5 all.length c5) (.slice o4 zs1.length c4) (.slice o6 l2.length c6) 0 wr) := ⟨HS7.out.more (by decide), HT7.out.2.1, HT7.out.1, HT7.out.2.2.1⟩
   clear HS7 HT7 HHN HM2
   go_wp2
   go_loopw [19] (fun i w9 => ∃ (k : Nat), i = .int .i64 k /\ k <= l2.length /\ GLoop w gb all now2 l2 zs1 (.slice o5 all.length c5) (.slice o4 zs1.length c4) (.slice o6 l2.length c6) k w9) (fun i _ => l2.length - (intOf i).toNat)
   case atStart => exact ⟨0, rfl, Nat.zero_le _, HG0.out⟩
   case round =>
    obtain ⟨k, rfl, hkl, hG⟩ := hrel
    clear HG0
    have HG : Hid (GLoop w gb all now2 l2 zs1 (.slice o5 all.length c5) (.slice o4 zs1.length c4) (.slice o6 l2.length c6) k wr) := hG
    clear hG
    by_cases hlt2 : k < l2.length
    ·obtain ⟨s, hs⟩ : ∃ s, l2[k]? = some s := ⟨_, List.getElem?_eq_getElem hlt2⟩
     obtain ⟨gx, hgx, hsc⟩ := strT_cell HG.out.l hs
     subst hgx
     have hsm := List.mem_of_getElem? hs
     obtain ⟨hf1, hf2⟩ := HFT.out s hsm
     have HF1 : Hid (faultS (ruleOfs krules) (⟨#[45]⟩ ++ s) = 0) := hf1
     clear hf1
     have HHA : Hid (Calls Tryz.prog 18 #[.slice o5 all.length c5, .string s] wr fun e w' => e = .returned (.bool (hasL all s)) /\ w' = wr) := g_has HG.out.a (by omega) s
     have HTK : Hid (l2.take (k + 1) = l2.take k ++ [s]) := by
      obtain ⟨h1, h2⟩ := List.getElem?_eq_some_iff.1 hs
      show _ = _
      rw [List.take_succ_eq_append_getElem h1, h2]
     cases hb : hasL all s
     ·have HMI : Hid (Calls Tryz.prog 24 #[.pointer (some ⟨gb, 0, none⟩), .slice (some ⟨wr.heap.size, 0, none⟩) 1 1] (wr.alloc (.cells #[.string (⟨#[45]⟩ ++ s)] 9)) fun e w' => ∃ v : Int, e = .returned (.tuple #[.int .i64 v, .int .i64 0, .int .i64 0]) /\ Hid (GLoop w gb all now2 l2 zs1 (.slice o5 all.length c5) (.slice o4 zs1.length c4) (.slice (some ⟨gx, 0, none⟩) l2.length c6) (k + 1) w')) := by
       refine (g_minus HG.out.st (by omega) s HF1 hf2).mono ?_
       rintro e w' ⟨v, rfl, h1, h2⟩
       refine ⟨v, rfl, ?_, h2.strT HG.out.a, h2.strT HG.out.b, h2.strT HG.out.l⟩
       rw [HTK.out, remN_snoc, hb, if_neg (by decide)]
       exact h1.more (by omega)
      rw [hb] at HHA
      have hs9 : s.size <= 99 := by
       have e : (⟨#[45]⟩ ++ s : ByteArray).size = 1 + s.size := by simp; rfl
       omega
      clear hs hsm hf2 HFT
      go_wp2_with (first | (go_at_call 18; refine HHA.out.mono ?_; rintro e w8 ⟨rfl, hw8⟩; subst w8) | (go_at_call 24; refine HMI.out.mono ?_; rintro e w9 ⟨vv, rfl, HG9⟩))
      go_roundw
      case rel => exact ⟨k + 1, by go_num, by omega, HG9.out⟩
      case measure => simp [intOf]; omega
     ·have HG9 : Hid (GLoop w gb all now2 l2 zs1 (.slice o5 all.length c5) (.slice o4 zs1.length c4) (.slice (some ⟨gx, 0, none⟩) l2.length c6) (k + 1) wr) := by
       refine ⟨?_, HG.out.a, HG.out.b, HG.out.l⟩
       rw [HTK.out, remN_snoc, hb, if_pos rfl]
       exact HG.out.st.more (by omega)
      rw [hb] at HHA
      clear hs hsm hf2 HFT
      go_wp2_with (go_at_call 18; refine HHA.out.mono ?_; rintro e w8 ⟨rfl, hw8⟩; subst w8)
      go_roundw
      case rel => exact ⟨k + 1, by go_num, by omega, HG9.out⟩
      case measure => simp [intOf]; omega
    ·obtain rfl : k = l2.length := by omega
     have HSE : Hid (GSt w gb (100 + (l2.length : Nat)) all wr) := by
      have := HG.out.st
      rw [List.take_length, HRM.out] at this
      exact this
     have HAB : Hid (StrT wr (.slice o5 all.length c5) all /\ StrT wr (.slice o4 zs1.length c4) zs1) := ⟨HG.out.a, HG.out.b⟩
     have HWC : Hid (Calls Tryz.prog 19 #[.pointer (some ⟨gb, 0, none⟩), .string nd] wr _) := HWH.out gb _ all wr HSE.out
     clear HG HFT HSE
     go_wp2_with (first
      | (go_at_call 19; refine HWC.out.mono ?_; rintro e w10 ⟨o10, c10, zs3, rfl, h10, k10, hso3, hz3, t10, hm3⟩; obtain rfl : zs3 = zs1 := sorted_ext _ _ hso3 HZ1.out.1 (fun s => (hm3 s).trans (HZ1.out.2 s).symm); have HT10 : Hid (StrT w10 (.slice o5 all.length c5) all /\ StrT w10 (.slice o4 zs3.length c4) zs3 /\ StrT w10 (.slice o10 zs3.length c10) zs3) := ⟨k10.strT HAB.out.1, k10.strT HAB.out.2, t10⟩; have HTV : Hid (Calls Tryz.prog 23 #[.pointer (some ⟨gb, 0, none⟩)] w10 _) := g_tuples h10; clear h10 k10 hso3 t10 hm3 HWC HZ1)
      | (go_at_call 23; refine HTV.out.mono ?_; rintro e w11 ⟨o11, c11, rfl, h11, k11, t11⟩; have HB11 : Hid (Below w.heap.size w w11) := h11.below; have HS1 : Hid (Calls Tryz.prog 25 #[.slice o10 zs3.length c10, .slice o4 zs3.length c4] w11 _) := g_same (k11.strT HT10.out.2.2) (k11.strT HT10.out.2.1) (by omega); have HT11 : Hid (StrT w11 (.slice o11 all.length c11) all /\ StrT w11 (.slice o5 all.length c5) all) := ⟨t11, k11.strT HT10.out.1⟩; clear h11 k11 t11 HTV)
      | (go_at_call 25; refine HS1.out.mono ?_; rintro e w12 ⟨rfl, hb12⟩; have HS2 : Hid (Calls Tryz.prog 25 #[.slice o11 all.length c11, .slice o5 all.length c5] w12 _) := g_same ((StrK.of_below hb12).strT HT11.out.1) ((StrK.of_below hb12).strT HT11.out.2) (by omega); have HB12 : Hid (Below w.heap.size w w12) := HB11.out.trans (hb12.mono HB11.out.size); clear hb12 HS1)
      | (go_at_call 25; refine HS2.out.mono ?_; rintro e w13 ⟨rfl, hb13⟩; have HB13 : Hid (Below w.heap.size w w13) := HB12.out.trans (hb13.mono HB12.out.size); clear hb13 HS2))
     go_ret
     exact ⟨rfl, HB13.out⟩
end Go.Proofs.YtalmoiogbdahcaaGreat
