import Derived.Test.YtalmoiogbdahcaaGreatPKrlB
import Derived.Test.YtalmoiogbdahcaaGreatTKrlB
import Derived.Test.YtalmoiogbdahcaaGreatTAskA
import Derived.Test.YtalmoiogbdahcaaGreatTGhE
import Derived.Test.YtalmoiogbdahcaaGreatYRefE
import Derived.Test.YtalmoiogbdahcaaGreatTGhG
import Derived.Maps.AppendAt
namespace Go.Proofs.YtalmoiogbdahcaaGreat
set_option maxRecDepth 100000
set_option maxHeartbeats 8000000
open Go.RowKit
theorem rem_nat (v : Nat) (k : Nat) : (v : Int).tmod k = ((v % k : Nat) : Int) := by
 rw [Int.tmod_eq_emod_of_nonneg (by omega)]; omega
theorem quo_nat (v : Nat) (k : Nat) : (v : Int).tdiv k = ((v / k : Nat) : Int) := by
 rw [Int.tdiv_eq_ediv_of_nonneg (by omega)]; omega
theorem letS_size (n : Nat) : (letS n).size = 1 := rfl
theorem wrap_small {n : Int} (h : 0 <= n) (h2 : n <= 1099511627776) : wrap64 n = n := by
 unfold wrap64; omega
theorem kTuple_k (c : Int) (v k : Nat) (w : World) (hp : Calls Tryz.prog 17 #[.int .i64 c, .int .i64 1099511627776] w fun e w' => e = .returned (.int .i64 (v : Nat)) /\ w' = w) (hk : k < 9) (hm : v % 9 = k) (hv : v <= 1099511627776) :
  Calls Tryz.prog 39 #[.int .i64 c] w fun e w' => e = .returned (.string (kT k (v / 16) (v / 64))) /\ Below w.heap.size w w' := by
 have q16 : (v : Int).tdiv 16 = ((v / 16 : Nat) : Int) := quo_nat v 16
 have q64 : (v : Int).tdiv 64 = ((v / 64 : Nat) : Int) := quo_nat v 64
 have r9 : (v : Int).tmod 9 = ((v % 9 : Nat) : Int) := rem_nat v 9
 have HA : Hid (∀ w1, Calls Tryz.prog 16 #[.int .i64 ((v / 16 : Nat) : Int)] w1 fun e w' => e = .returned (.string (letS (v / 16))) /\ Below w1.heap.size w1 w') := fun w1 => letter_any (v / 16) w1 (by omega)
 have HB : Hid (∀ w1, Calls Tryz.prog 16 #[.int .i64 ((v / 64 : Nat) : Int)] w1 fun e w' => e = .returned (.string (letS (v / 64))) /\ Below w1.heap.size w1 w') := fun w1 => letter_any (v / 64) w1 (by omega)
 have sa := letS_size (v / 16)
 have sb := letS_size (v / 64)
 have w16 : wrap64 ((v / 16 : Nat) : Int) = ((v / 16 : Nat) : Int) := wrap_small (by omega) (by omega)
 have w64 : wrap64 ((v / 64 : Nat) : Int) = ((v / 64 : Nat) : Int) := wrap_small (by omega) (by omega)
 have HT : Hid (kT k (v / 16) (v / 64) = kPre k ++ letS (v / 16) ++ kMid k ++ letS (v / 64) ++ kEnd k) := rfl
 rw [hm] at r9
 generalize kT k (v / 16) (v / 64) = T at *
 generalize letS (v / 16) = la at *
 generalize letS (v / 64) = lb at *
 generalize ((v / 16 : Nat) : Int) = n16 at *
 generalize ((v / 64 : Nat) : Int) = n64 at *
 clear hm
 have hcs : k = 0 \/ k = 1 \/ k = 2 \/ k = 3 \/ k = 4 \/ k = 5 \/ k = 6 \/ k = 7 \/ k = 8 := by omega
 clear hk
 rcases hcs with rfl | rfl | rfl | rfl | rfl | rfl | rfl | rfl | rfl
 all_goals
  go_enter Tryz.func39, Tryz.ntmps39
  go_wp2_with (first | (go_at_call 17; refine hp.mono ?_; rintro e w1 ⟨rfl, rfl⟩) | (go_at_call 16; refine (HA.out _).mono ?_; rintro e w2 ⟨rfl, hb2⟩; clear HA) | (go_at_call 16; refine (HB.out _).mono ?_; rintro e w3 ⟨rfl, hb3⟩))
  go_ret
  refine ⟨?_, hb2.trans (hb3.mono hb2.size)⟩
  rw [HT.out]
  first
  | rfl
  | (refine congrArg (fun s => Ending.returned (Value.string s)) ?_
     exact (ByteArray.append_empty ..).symm)
open Go.RowKit Go.Shelf
def ndT (x : Nod) : ByteArray := x.k ++ ⟨#[58]⟩ ++ x.n ++ ⟨#[35]⟩ ++ x.r
theorem ndT_mk (k n r : List UInt8) : ndT ⟨mk k, mk n, mk r⟩ = mk (k ++ 58 :: (n ++ 35 :: r)) := by
 refine bytes_ext ?_
 unfold ndT
 simp [mk]
theorem thT_mk (k n : List UInt8) (q : ByteArray) : thT ⟨mk k, mk n, q⟩ = mk (k ++ 58 :: n) := bytes_ext (thT_list k n [])
structure NmN (x : Nod) (k n : List UInt8) (o : Option (List UInt8)) : Prop where
 e : x = ⟨mk k, mk n, orel o⟩
 hk : nameL k = true
 hn : nameL n = true
 ho : ∀ r, o = some r -> nameL r = true
def txT (x : Nod) : ByteArray := if x.isTh = true then thT x else ndT x
theorem nmN_th {x : Nod} {k n : List UInt8} {o : Option (List UInt8)} (h : NmN x k n o) : x.isTh = true ↔ o = none := by
 rw [h.e]
 cases o with
 | none => simp [Nod.isTh, orel, noneB]
 | some r => simp [Nod.isTh, orel]; exact decide_eq_false (nameL_pos (h.ho r rfl))
theorem nmN_txt {x : Nod} {k n : List UInt8} {o : Option (List UInt8)} (h : NmN x k n o) : txT x = mk (k ++ 58 :: (n ++ otail o)) := by
 unfold txT
 cases o with
 | none => rw [if_pos ((nmN_th h).2 rfl), h.e, thT_mk]; simp [otail]
 | some r =>
  rw [if_neg (fun e => by have := (nmN_th h).1 e; cases this), h.e]
  show ndT ⟨mk k, mk n, mk r⟩ = _
  rw [ndT_mk]; rfl
theorem que_sizesK (s : ByteArray) (hs : s.size <= maxLen) : okNd (queX s) := by
 have h0 : (rd0 s).rest.size = s.size := rfl
 have h1 := node_names (rd0 s)
 rw [h0] at h1
 refine ⟨Nat.le_trans h1.1 hs, ?_, Nat.le_trans h1.2 hs⟩
 have h2 := name_size (rd0 s)
 have h3 := must_size (rd0 s).name { data := #[58] }
 have h4 := nameOf_size ((rd0 s).name.must { data := #[58] }).rest
 have : (queX s).n.size <= ((rd0 s).name.must { data := #[58] }).rest.size := h4
 omega
def tupT (x y : Nod) : ByteArray := txT x ++ ⟨#[64]⟩ ++ txT y
theorem tupT_mk {x y : Nod} {k n r k2 n2 : List UInt8} {o : Option (List UInt8)} (hx : NmN x k n (some r)) (hy : NmN y k2 n2 o) : tupT x y = mk (k ++ 58 :: (n ++ 35 :: (r ++ 64 :: (k2 ++ 58 :: (n2 ++ otail o))))) := by
 unfold tupT
 rw [nmN_txt hx, nmN_txt hy]
 refine bytes_ext ?_
 simp [mk, otail]
theorem app_strF (w : World) (base : Nat) (v : Value) (n : Nat) (xs : List ByteArray) (x : ByteArray) (hown : w.ownsRow base 9 1 v n (strV xs)) (hb : base <= w.heap.size) (hl : n <= 1099511627776) :
  ∃ v' w', (Builtin.append_ #[28, 28] 28 #[v, .slice (some ⟨w.heap.size, 0, none⟩) 1 1]).run Tryz.prog (w.alloc (.cells #[.string x] 9)) = .ok v' w' /\
   w'.ownsRow base 9 1 v' (n + 1) (strV (xs ++ [x])) /\ w.grownBy w' v.ownBlock /\ (v'.ownBlock = v.ownBlock \/ v'.ownBlock = some (w.heap.size + 1)) := by
 obtain ⟨i, hi, hz, hs, hby⟩ := info_str
 obtain ⟨v', w', hr, h2, h3, h4, h5⟩ := run_append_own_at (P := Tryz.prog) (w.alloc (.cells #[.string x] 9)) base 28 28 9 i (.string { data := #[] }) 1 16 Tryz.underlying28 hi hz hs hby rfl (by decide) v n (strV xs) (hown.alloc _) ⟨w.heap.size, 0, none⟩ 1 1 [.string x] rfl
  (by intro j u hj
      match j, hj with
      | 0, hj => simp at hj; subst hj; simp [Addr.add])
  (by intro u hu; simp at hu; subst hu; rfl) (by unfold maxLen; omega) (by omega) (by simp; omega)
 have h2' : w'.ownsRow base 9 1 v' (n + 1) (strV (xs ++ [x])) := by
  rw [strV_append]; exact h2
 exact ⟨v', w', hr, h2', grown_alloc h3, by simpa using h5⟩
def kOf (c : Int) : ByteArray := kT ((pickN c 1099511627776).toNat % 9) ((pickN c 1099511627776).toNat / 16) ((pickN c 1099511627776).toNat / 64)
theorem kOf_ok (c : Int) : faultS (ruleOfs krules) (⟨#[43]⟩ ++ kOf c) = 0 /\ (⟨#[43]⟩ ++ kOf c).size <= 100 := kT_fault _ _ _ (by omega)
theorem kTuple_any (c : Int) (w : World) (h1 : -9223372036854775808 <= c) (h2 : c <= 9223372036854775807) :
  Calls Tryz.prog 39 #[.int .i64 c] w fun e w' => e = .returned (.string (kOf c)) /\ Below w.heap.size w w' := by
 have hp := kPick_any c 1099511627776 w h1 h2 (by decide) (by decide)
 obtain ⟨b1, b2⟩ := pickN_bd c 1099511627776 (by decide)
 obtain ⟨v, hv⟩ := Int.eq_ofNat_of_zero_le b1
 unfold kOf
 rw [hv] at hp b2 ⊢
 have hvt : ((v : Nat) : Int).toNat = v := by omega
 rw [hvt]
 exact kTuple_k c v (v % 9) w hp (by omega) rfl (by omega)
def IntsAt (w : World) (v : Value) (cs : List Int) : Prop :=
 ((∃ x c, v = .slice x 0 c) /\ cs = []) \/ ∃ b off cap, v = .slice (some ⟨b, off, none⟩) cs.length cap /\ b < w.heap.size /\ ∀ i c, cs[i]? = some c -> w.cell? ⟨b, off + i, none⟩ = some (.int .i64 c)
def putN (now : List ByteArray) (l : List ByteArray) : List ByteArray := l.foldl (fun n s => withL n s true) now
theorem with_len {l : List ByteArray} (hs : Sorted l) (x : ByteArray) : (withL l x true).length <= l.length + 1 := by
 obtain ⟨i, hp⟩ := place_ex hs x
 have h1 := sorted_nodup (with_sorted hs hp true)
 have h2 := nodup_sub_len (withL l x true) (x :: l) h1 fun a ha => by
  rcases (mem_with hs x a).1 ha with e | e
  ·exact List.mem_cons_of_mem _ e
  ·rw [e]; exact List.mem_cons_self ..
 simpa using h2
theorem putN_ok : ∀ (l now : List ByteArray), Sorted now -> Sorted (putN now l) /\ (putN now l).length <= now.length + l.length /\ ∀ s, s ∈ putN now l ↔ s ∈ now \/ s ∈ l := by
 intro l
 induction l with
 | nil => intro now h; exact ⟨h, by simp [putN], fun s => by simp [putN]⟩
 | cons a l ih =>
  intro now h
  obtain ⟨i, hp⟩ := place_ex h a
  obtain ⟨h1, h2, h3⟩ := ih (withL now a true) (with_sorted h hp true)
  refine ⟨h1, ?_, fun s => ?_⟩
  ·have := with_len h a
   have h4 : (putN now (a :: l)).length = (putN (withL now a true) l).length := rfl
   rw [h4, List.length_cons]; omega
  ·have : s ∈ putN now (a :: l) ↔ s ∈ putN (withL now a true) l := Iff.rfl
   rw [this, h3, mem_with h, List.mem_cons, or_assoc]
theorem putN_snoc (now l : List ByteArray) (s : ByteArray) : putN now (l ++ [s]) = withL (putN now l) s true := by
 unfold putN; rw [List.foldl_append]; rfl
def StepP (xs : List ByteArray) (mr rb : Nat) (P : Nat -> Prop) (t : Tk) (r : Rq) (w w' : World) : Prop :=
 Frm P w w' /\ ∃ fin r' uv' tp', StepR xs t r r' fin /\ RqAt xs mr rb (more P w w') r' uv' tp' w'
structure SMid (xs : List ByteArray) (mr rb kb wb : Nat) (P O : Nat -> Prop) (t : Tk) (r : Rq) (met : List Nod) (w w3 : World) : Prop where
 blk : w3.heap[rb]? = some (.cells (rqL { r with st := r.st + 1 } (.slice none 0 0) (.pointer (some ⟨kb, 0, none⟩))).toArray 161 (0, 0))
 kblk : w3.heap[kb]? = some (.cells (tkL t wb).toArray 115 (0, 0))
 wk : WkAt xs t.now t.x mr O wb met (r.st + 1) w3
 fr : Frm P w w3
 OP : ∀ k, O k -> more P w w3 k
 nr : ¬ O rb
 nk : ¬ O kb
theorem more_le {P : Nat -> Prop} {w w3 w4 : World} (hs : w3.heap.size <= w4.heap.size) {k : Nat} (h : more P w w3 k) : more P w w4 k := by
 rcases h with e | e
 ·exact Or.inl e
 ·exact Or.inr ⟨e.1, Nat.lt_of_lt_of_le e.2 hs⟩
theorem SMid.later {xs : List ByteArray} {mr rb kb wb : Nat} {P O : Nat -> Prop} {t : Tk} {r : Rq} {met : List Nod} {w w3 w4 : World} (h : SMid xs mr rb kb wb P O t r met w w3) (hb : Below w3.heap.size w3 w4) : SMid xs mr rb kb wb P O t r met w w4 :=
 ⟨(hb.block _ (row_lt h.blk)).trans h.blk, (hb.block _ (row_lt h.kblk)).trans h.kblk, h.wk.below hb, h.fr.trans (Frm.of_below (X := fun _ => False) hb) (fun _ _ e => e.elim), fun k e => more_le hb.size (h.OP k e), h.nr, h.nk⟩
theorem SMid.answer (HW : Hid TWayC) {xs : List ByteArray} {mr rb kb wb : Nat} {P O : Nat -> Prop} {t : Tk} {r : Rq} {met : List Nod} {w w3 : World} (h : SMid xs mr rb kb wb P O t r met w w3) {uv tp : Value} (h0 : RqAt xs mr rb P r uv tp w) (ht : r.tk = some t) (sy : t.y.k.size + 1 + t.y.n.size <= maxLen) (he : r.st + 1 = met.length) :
  Calls Tryz.prog 164 #[.pointer (some ⟨rb, 0, none⟩)] w3 fun e w' => e = .returned (.tuple #[]) /\ StepP xs mr rb P t r w w' := by
 obtain ⟨al0, us0, -⟩ := h0.fresh (by rw [ht]; simp)
 refine (rqAnswer_any HW h.blk h.kblk h.wk h.nr sy al0 us0).mono ?_
 rintro e w' ⟨rfl, al, us, uv', ha, hul, hb', hf', hu⟩
 have hf : Frm P w w' := h.fr.trans hf' fun j hj e => by
  rcases e with e | e
  ·rcases h.OP j e with e | e
   ·exact e
   ·omega
  ·rw [e]; exact h0.rP
 refine ⟨rfl, hf, true, ⟨3, r.st + 1, al, us, none⟩, uv', .pointer none, ⟨fun n hn => ⟨fun _ => (h.wk.cost hn).2 he, fun e => by cases e⟩, fun _ => h.wk.allN he, fun _ => ⟨rfl, rfl, rfl, ha⟩, (fun e => by cases e), (fun e => by cases e)⟩, ?_⟩
 have hmore : ∀ k, more P w w' k -> k < w'.heap.size := fun k e => by
  rcases e with e | e
  ·exact Nat.lt_of_lt_of_le (h0.lt k e) hf.size
  ·exact e.2
 have hsl := h.wk.gl.2
 refine ⟨hb', ?_, ?_, fun _ => rfl, (fun t e => by cases e), ⟨fun _ => by show ¬ ((3 : Int) = 1 \/ (3 : Int) = 2); decide, fun _ => rfl⟩, fun e => absurd rfl e, Or.inl h0.rP, hmore, by show r.st + 1 <= 32000000; omega, hul, by show (1 : Int) <= 3; decide, by show (3 : Int) <= 6; decide⟩
 ·rcases hu with ⟨rfl, rfl⟩ | ⟨h1, -⟩
  ·exact Or.inl ⟨rfl, rfl⟩
  ·exact h1
 ·intro k hk
  rcases hu with ⟨rfl, -⟩ | ⟨h1, h2⟩
  ·cases hk
  ·have h3 := h2 k hk
   have h4 := h.fr.size
   refine ⟨Or.inr ⟨by omega, (strT_own h1 k hk).1⟩, fun e => ?_⟩
   have := h0.lt _ h0.rP
   omega
theorem SMid.on {xs : List ByteArray} {mr rb kb wb : Nat} {P O : Nat -> Prop} {t : Tk} {r : Rq} {met : List Nod} {w w3 : World} (h : SMid xs mr rb kb wb P O t r met w w3) {uv tp : Value} (h0 : RqAt xs mr rb P r uv tp w) (ht : r.tk = some t) (hkP : P kb) {O0 : Nat -> Prop} {met0 : List Nod} (hT : TkAt xs mr kb O0 wb met0 t r.st w) (he : r.st + 1 ≠ met.length) (hb : (r.st : Int) + 1 ≠ t.bud) : StepP xs mr rb P t r w w3 := by
 obtain ⟨al0, us0, hu0⟩ := h0.fresh (by rw [ht]; simp)
 have hgl := h.wk.gl
 refine ⟨h.fr, false, { r with st := r.st + 1 }, .slice none 0 0, .pointer (some ⟨kb, 0, none⟩), ⟨fun n hn => ⟨fun e => by (cases e), fun _ => ?_⟩, (fun e => by cases e), (fun e => by cases e), fun _ e => absurd e hb, fun _ _ => rfl⟩, ?_⟩
 ·have := (h.wk.cost hn).1; omega
 ·refine ⟨h.blk, Or.inl ⟨rfl, us0⟩, (fun k e => by cases e), (fun e => by rw [show ({ r with st := r.st + 1 } : Rq).tk = r.tk from rfl, ht] at e; cases e), fun t' e => ?_, h0.live, fun _ => ⟨al0, us0, rfl⟩, Or.inl h0.rP, fun k e => ?_, by show r.st + 1 <= 32000000; omega, h0.ul, h0.is0, h0.is9⟩
  ·have e2 : r.tk = some t' := e
   rw [ht] at e2
   injection e2 with e2
   subst e2
   have hbd := hT.bd
   exact ⟨kb, wb, O, met, rfl, Or.inl hkP, h.OP, h.nr, h.kblk, h.wk, h.nk, by show r.st + 1 < met.length; omega, hT.sy, by show ((r.st + 1 : Nat) : Int) < t.bud; omega, hT.b9, hT.t0, hT.t9⟩
  ·rcases e with e | e
   ·exact Nat.lt_of_lt_of_le (h0.lt k e) h.fr.size
   ·exact e.2
theorem SMid.budget {xs : List ByteArray} {mr rb kb wb : Nat} {P O : Nat -> Prop} {t : Tk} {r : Rq} {met : List Nod} {w w3 : World} (h : SMid xs mr rb kb wb P O t r met w w3) {uv tp : Value} (h0 : RqAt xs mr rb P r uv tp w) (ht : r.tk = some t) (he : r.st + 1 ≠ met.length) (hb : (r.st : Int) + 1 = t.bud) :
  Calls Tryz.prog 115 #[.pointer (some ⟨rb, 0, none⟩), .int .i64 4] w3 fun e w' => e = .returned (.tuple #[]) /\ StepP xs mr rb P t r w w' := by
 obtain ⟨al0, us0, hu0⟩ := h0.fresh (by rw [ht]; simp)
 have hgl := h.wk.gl
 refine (rqEnd_any h.blk 4).mono ?_
 rintro e w' ⟨rfl, hb', hf', -⟩
 have hf : Frm P w w' := h.fr.trans hf' fun j hj e => by rw [e]; exact h0.rP
 refine ⟨rfl, hf, false, { r with st := r.st + 1, is := 4, tk := none }, .slice none 0 0, .pointer none, ⟨fun n hn => ⟨fun e => by (cases e), fun _ => ?_⟩, (fun e => by cases e), (fun e => by cases e), fun _ _ => rfl, fun _ e => absurd hb e⟩, ?_⟩
 ·have := (h.wk.cost hn).1; omega
 ·refine ⟨hb', Or.inl ⟨rfl, us0⟩, (fun k e => by cases e), fun _ => rfl, (fun t e => by cases e), ⟨fun _ => by show ¬ ((4 : Int) = 1 \/ (4 : Int) = 2); decide, fun _ => rfl⟩, fun e => absurd rfl e, Or.inl h0.rP, fun k e => ?_, by show r.st + 1 <= 32000000; omega, h0.ul, by show (1 : Int) <= 4; decide, by show (4 : Int) <= 6; decide⟩
  rcases e with e | e
  ·exact Nat.lt_of_lt_of_le (h0.lt k e) hf.size
  ·exact e.2
theorem rqStep_any (HW : Hid TWayC) {xs : List ByteArray} {mr rb : Nat} {P R : Nat -> Prop} {r : Rq} {uv tp : Value} {w : World} (h : RqAt xs mr rb P r uv tp w) {t : Tk} (ht : r.tk = some t) (K : Kpt R (fun w => RulesN w mr xs) w) (hR : ∀ k, R k -> ¬ P k) :
  Calls Tryz.prog 112 #[.pointer (some ⟨rb, 0, none⟩)] w fun e w' => e = .returned (.tuple #[]) /\ StepP xs mr rb P t r w w' := by
 obtain ⟨kb, wb, O, met, rfl, hkP, hOP, hnr, hT⟩ := h.tk t ht
 obtain ⟨al0, us0, rfl⟩ := h.fresh (by rw [ht]; simp)
 have hlt := row_lt h.blk
 have hne : kb ≠ rb := by
  intro e
  have h1 := hT.blk
  rw [e, h.blk] at h1
  injection h1 with h1
  injection h1 with _ h1
  revert h1; decide
 have hb1 : (w.setCell ⟨rb, 1, none⟩ (.int .i64 ((r.st : Int) + 1))).heap[rb]? = some (.cells (rqL { r with st := r.st + 1 } (.slice none 0 0) (.pointer (some ⟨kb, 0, none⟩))).toArray 161 (0, 0)) := row_set h.blk 1 _
 have hf1 := frm_set w rb 1 (.int .i64 ((r.st : Int) + 1))
 have hk1 : (w.setCell ⟨rb, 1, none⟩ (.int .i64 ((r.st : Int) + 1))).heap[kb]? = _ := (hf1.block kb (row_lt hT.blk) hne).trans hT.blk
 have hw1 : WkAt xs t.now t.x mr O wb met r.st (w.setCell ⟨rb, 1, none⟩ (.int .i64 ((r.st : Int) + 1))) := hT.wk.keep hf1.size (fun k e => hf1.block k (hT.wk.lt k e) fun e2 => hnr (e2 ▸ e)) (K.frm hf1 fun k hk e => hR k hk (e ▸ h.rP)).now
 have HST : Hid (Calls Tryz.prog 140 #[.pointer (some ⟨wb, 0, none⟩)] (w.setCell ⟨rb, 1, none⟩ (.int .i64 ((r.st : Int) + 1))) fun e w2 => e = .returned (.tuple #[]) /\ w2.cell? ⟨rb, 4, none⟩ = some (.pointer (some ⟨kb, 0, none⟩)) /\ w2.cell? ⟨kb, 6, none⟩ = some (.pointer (some ⟨wb, 0, none⟩)) /\ Hid (Calls Tryz.prog 139 #[.pointer (some ⟨wb, 0, none⟩)] w2 fun e w3 => ∃ fin : Bool, e = .returned (.bool fin) /\ Hid (w3.cell? ⟨rb, 1, none⟩ = some (.int .i64 ((r.st : Int) + 1)) /\ w3.cell? ⟨rb, 4, none⟩ = some (.pointer (some ⟨kb, 0, none⟩)) /\ w3.cell? ⟨kb, 7, none⟩ = some (.int .i64 t.bud)) /\ Hid (fin = true -> Calls Tryz.prog 164 #[.pointer (some ⟨rb, 0, none⟩)] w3 fun e w' => e = .returned (.tuple #[]) /\ StepP xs mr rb P t r w w') /\ Hid (fin = false -> ∀ w4, Below w3.heap.size w3 w4 -> ((r.st : Int) + 1 = t.bud -> Calls Tryz.prog 115 #[.pointer (some ⟨rb, 0, none⟩), .int .i64 4] w4 fun e w' => e = .returned (.tuple #[]) /\ StepP xs mr rb P t r w w') /\ ((r.st : Int) + 1 ≠ t.bud -> StepP xs mr rb P t r w w4)))) := by
  refine (hw1.step HW hT.lt).mono ?_
  rintro e w2 ⟨rfl, hf2, met', hw2⟩
  have hb2 := (hf2.block rb (row_lt hb1) hnr).trans hb1
  have hk2 := (hf2.block kb (row_lt hk1) hT.nO).trans hk1
  have hz1 := setSz w ⟨rb, 1, none⟩ (.int .i64 ((r.st : Int) + 1))
  have hlk := row_lt hT.blk
  have hm : SMid xs mr rb kb wb P (more O (w.setCell ⟨rb, 1, none⟩ (.int .i64 ((r.st : Int) + 1))) w2) t r met' w w2 := by
   refine ⟨hb2, hk2, hw2, (hf1.mono fun k _ e => e ▸ h.rP).trans hf2 fun k _ e => hOP k e, fun k e => ?_, fun e => ?_, fun e => ?_⟩
   ·rcases e with e | e
    ·exact Or.inl (hOP k e)
    ·exact Or.inr ⟨by omega, e.2⟩
   ·rcases e with e | e
    ·exact hnr e
    ·omega
   ·rcases e with e | e
    ·exact hT.nO e
    ·omega
  refine ⟨rfl, row_cell hb2 (j := 4) rfl, row_cell hk2 (j := 6) rfl, ?_⟩
  refine hw2.ended.mono ?_
  rintro e w3 ⟨rfl, hb3⟩
  have hm3 := hm.later hb3
  refine ⟨_, rfl, ⟨row_cell hm3.blk (j := 1) rfl, row_cell hm3.blk (j := 4) rfl, row_cell hm3.kblk (j := 7) rfl⟩, fun e => hm3.answer HW h ht hT.sy (of_decide_eq_true e), fun e w4 hb4 => ⟨fun hb => (hm3.later hb4).budget h ht (of_decide_eq_false e) hb, fun hb => (hm3.later hb4).on h ht hkP hT (of_decide_eq_false e) hb⟩⟩
 have c1 := row_cell h.blk (j := 1) rfl
 have z1 := row_frozen h.blk 1
 have hd4 := row_cell hb1 (j := 4) rfl
 have hd6 := row_cell hk1 (j := 6) rfl
 have hsl := h.sl
 generalize StepP xs mr rb P t r w = PP at *
 generalize t.bud = bud at *
 generalize r.st = st at *
 clear h ht K hR hT hOP hnr al0 us0 hb1 hf1 hk1 hw1 HW hkP hne
 go_enter Tryz.func112, Tryz.ntmps112
 go_wp2_with (first | (go_at_call 140; refine HST.out.mono ?_; rintro e w2 ⟨rfl, e4, e6, HEN⟩; clear HST hd4 hd6) | (go_at_call 139; refine HEN.out.mono ?_; rintro e w3 ⟨fin, rfl, HC3, HA, HB⟩; clear HEN e4 e6) | (go_at_call 164; refine (Calls.mono (HA.out (by assumption))) ?_; rintro e w5 ⟨rfl, hp⟩; have HP : Hid (PP w5) := hp; clear hp))
 ·go_end0
  exact ⟨rfl, HP.out⟩
 ·have hfin : fin = false := by assumption
  obtain ⟨f1, f4, f7⟩ := HC3.out
  have HB2 : Hid (∀ (w4 : World), Below w3.heap.size w3 w4 -> (((st : Int) + 1 = bud) -> Calls Tryz.prog 115 #[.pointer (some ⟨rb, 0, none⟩), .int .i64 4] w4 fun e w' => e = .returned (.tuple #[]) /\ PP w') /\ ((st : Int) + 1 ≠ bud -> PP w4)) := HB.out hfin
  clear HA HB HC3 c1 z1
  by_cases hbd : (st : Int) + 1 = bud
  ·have hq : ((st : Int) + 1 == bud) = true := by simp [hbd]
   have HE : Hid (∀ w4, Below w3.heap.size w3 w4 -> Calls Tryz.prog 115 #[.pointer (some ⟨rb, 0, none⟩), .int .i64 4] w4 fun e w' => e = .returned (.tuple #[]) /\ PP w') := fun w4 hb => (HB2.out w4 hb).1 hbd
   clear HB2 hbd
   go_region
   all_goals go_wp2_with (go_at_call 115; refine (Calls.mono (HE.out _ (by repeat (first | exact Below.refl _ _ | refine Below.setCell ?_ (by first | exact Nat.le_refl _ | (simp; done) | (simp; omega)) _ | refine below_drewN ?_ _ | refine Below.drew ?_ | refine Below.alloc ?_ (by first | exact Nat.le_refl _ | (simp; done) | (simp; omega)) _)))) ?_; rintro e w5 ⟨rfl, hp⟩; have HP : Hid (PP w5) := hp; clear hp)
   all_goals go_end0
   all_goals exact ⟨rfl, HP.out⟩
  ·have hq : ((st : Int) + 1 == bud) = false := by simpa using hbd
   have HE : Hid (∀ w4, Below w3.heap.size w3 w4 -> PP w4) := fun w4 hb => (HB2.out w4 hb).2 hbd
   clear HB2 hbd
   go_region
   all_goals go_wp2
   all_goals go_end0
   all_goals exact ⟨rfl, HE.out _ (by repeat (first | exact Below.refl _ _ | refine Below.setCell ?_ (by first | exact Nat.le_refl _ | (simp; done) | (simp; omega)) _ | refine below_drewN ?_ _ | refine Below.drew ?_ | refine Below.alloc ?_ (by first | exact Nat.le_refl _ | (simp; done) | (simp; omega)) _))⟩
theorem giveD_w {D : Dk} (hW : DkW D) (hl : ∀ (k : Nat) (r : Rq), D.rs[k]? = some r -> r.is = 1 -> r.tk ≠ none) (i : Nat) : DkW (giveD D i) := by
 unfold giveD
 cases he : D.rs.findIdx? (mayR D) with
 | none => exact hW
 | some j =>
  intro a b r ha hr
  have hj := (List.findIdx?_eq_some_iff_getElem.1 he)
  obtain ⟨hj1, hj2, -⟩ := hj
  have hjr : D.rs[j]? = some D.rs[j] := List.getElem?_eq_getElem hj1
  have his : (D.rs[j]).is = 1 := by
   unfold mayR at hj2
   rw [Bool.and_eq_true] at hj2
   exact of_decide_eq_true hj2.1
  have hr2 : (D.rs.modify j fun r => { r with is := 2 })[b]? = some r := hr
  rw [modify_set _ hjr] at hr2
  by_cases e : j = b
  ·subst e
   rw [List.getElem?_set_self hj1] at hr2
   injection hr2 with hr2
   rw [← hr2]
   show (D.rs[j]).tk ≠ none
   exact hl j _ hjr his
  ·rw [List.getElem?_set_ne e] at hr2
   have ha2 : (D.wk.set i (some j))[a]? = some (some b) := ha
   by_cases e2 : i = a
   ·subst e2
    by_cases hi : i < D.wk.length
    ·rw [List.getElem?_set_self hi] at ha2
     injection ha2 with ha2
     injection ha2 with ha2
     exact absurd ha2 e
    ·rw [List.getElem?_eq_none (by rw [List.length_set]; omega)] at ha2; cases ha2
   ·rw [List.getElem?_set_ne e2] at ha2
    exact hW a b r ha2 hr2
theorem giveD_len (D : Dk) (i : Nat) : (giveD D i).wk.length = D.wk.length := by
 unfold giveD
 cases D.rs.findIdx? (mayR D) with
 | none => rfl
 | some j => show (D.wk.set i (some j)).length = _; rw [List.length_set]
theorem DkAt.liveR {xs : List ByteArray} {mr : Nat} {R : Nat -> Prop} {db : Nat} {Q : Nat -> Prop} {D : Dk} {tv : Value} {wb : Nat} {ls : List Rl} {w : World} (h : DkAt xs mr R db Q D tv wb ls w) : ∀ (k : Nat) (r : Rq), D.rs[k]? = some r -> r.is = 1 -> r.tk ≠ none := by
 intro k r hr hi e
 have hk := (List.getElem?_eq_some_iff.1 hr).1
 obtain ⟨l, hl⟩ : ∃ l, ls[k]? = some l := ⟨_, List.getElem?_eq_getElem (by rw [h.len]; exact hk)⟩
 exact (h.at' k l r hl hr).live.1 e (Or.inl hi)
def DkStP (xs : List ByteArray) (mr : Nat) (R : Nat -> Prop) (db : Nat) (Q : Nat -> Prop) (D : Dk) (i : Nat) (tv : Value) (wb : Nat) (w w' : World) : Prop :=
 Frm Q w w' /\ ∃ D' ls', DStep xs D i D' /\ DkAt xs mr R db (more Q w w') D' tv wb ls' w'
theorem more_wide {xs : List ByteArray} {mr : Nat} {R : Nat -> Prop} {db : Nat} {Q : Nat -> Prop} {D : Dk} {tv : Value} {wb : Nat} {ls : List Rl} {w w' : World} (h : DkAt xs mr R db Q D tv wb ls w') (hR : ∀ k, R k -> k < w.heap.size) : DkAt xs mr R db (more Q w w') D tv wb ls w' := by
 refine h.wide (fun k e => Or.inl e) (fun k e => ?_) fun k hk e => ?_
 ·rcases e with e | e
  ·exact h.lt k e
  ·exact e.2
 ·rcases e with e | e
  ·exact h.rq k hk e
  ·have := hR k hk; omega
theorem dkStep_rest (HW : Hid TWayC) {xs : List ByteArray} {mr : Nat} {R : Nat -> Prop} {db : Nat} {Q : Nat -> Prop} {D D1 : Dk} {i : Nat} {tv : Value} {wb : Nat} {ls : List Rl} {w w1 : World} (h0 : DkAt xs mr R db Q D tv wb ls w) (h1 : DkAt xs mr R db Q D1 tv wb ls w1) (hf : Frm Q w w1) (hW : DkW D1) (he : D1 = if D.wk[i]? = some none then giveD D i else D) {o : Option Nat} (ho : D1.wk[i]? = some o) :
  (o = none -> CallsD Tryz.prog 110 #[.pointer (some ⟨db, 0, none⟩)] .returning w1 fun e u' w' => u' = .returning /\ (e = .returned (.tuple #[]) /\ DkStP xs mr R db Q D i tv wb w w')) /\
  (∀ j, o = some j -> ∃ rb, wkV ls o = .pointer (some ⟨rb, 0, none⟩) /\ Calls Tryz.prog 112 #[.pointer (some ⟨rb, 0, none⟩)] w1 fun e w2 => e = .returned (.tuple #[]) /\ Hid (CallsD Tryz.prog 110 #[.pointer (some ⟨db, 0, none⟩)] .returning w2 fun e u' w' => u' = .returning /\ (e = .returned (.tuple #[]) /\ DkStP xs mr R db Q D i tv wb w w'))) := by
 constructor
 ·intro e
  subst e
  refine (dkDismiss_d h1 .returning).mono ?_
  rintro e u' w' ⟨hu, rfl, hf', -, hD'⟩
  rw [dismissD_id hW h1.ok.wj] at hD'
  have hff : Frm Q w w' := hf.trans hf' fun k _ e => e ▸ h1.wQ
  exact ⟨hu, rfl, hff, D1, ls, DStep.idle D1 he ho, more_wide hD' h0.ru.lt⟩
 ·intro j e
  subst e
  have hj := h1.ok.wj i j ho
  obtain ⟨l, r, hl, hr, hR⟩ := h1.get hj
  obtain ⟨t, ht⟩ : ∃ t, r.tk = some t := by
   cases e : r.tk with
   | none => exact absurd e (hW i j r ho hr)
   | some t => exact ⟨t, rfl⟩
  have hm := List.mem_of_getElem? hl
  refine ⟨l.rb, by rw [wkV_some, hl]; rfl, ?_⟩
  refine (rqStep_any HW hR ht h1.ru fun k hk e => h1.rq k hk (h1.inQ l hm k e)).mono ?_
  rintro e w2 ⟨rfl, hf2, fin, r', uv', tp', hs, hR'⟩
  refine ⟨rfl, ?_⟩
  have hD2 := h1.upd (l' := ⟨l.rb, more l.P w1 w2, uv', tp'⟩) (r' := r') hl hr rfl hf2 (fun k e => e) hR'
  refine (dkDismiss_d hD2 .returning).mono ?_
  rintro e u' w' ⟨hu, rfl, hf', hz', hD'⟩
  have hff : Frm Q w w' := (hf.trans hf2 fun k _ e => h1.inQ l hm k e).trans hf' fun k _ e => e ▸ h1.wQ
  refine ⟨hu, rfl, hff, _, ls.set j ⟨l.rb, more l.P w1 w2, uv', tp'⟩, DStep.work D1 he j ho r r' t fin hr ht hs, ?_⟩
  have hs1 := hf.size
  refine hD'.wide (fun k e => ?_) (fun k e => ?_) fun k hk e => ?_
  ·rcases e with e | e
   ·exact Or.inl e
   ·exact Or.inr ⟨by omega, by rw [hz']; exact e.2⟩
  ·rcases e with e | e
   ·exact Nat.lt_of_lt_of_le (h0.lt k e) hff.size
   ·exact e.2
  ·rcases e with e | e
   ·exact h0.rq k hk e
   ·have := h0.ru.lt k hk; omega
theorem dkStep_any (HW : Hid TWayC) {xs : List ByteArray} {mr : Nat} {R : Nat -> Prop} {db : Nat} {Q : Nat -> Prop} {D : Dk} {tv : Value} {wb : Nat} {ls : List Rl} {w : World} (h : DkAt xs mr R db Q D tv wb ls w) (hW : DkW D) {i : Nat} (hi : i < D.wk.length) :
  Calls Tryz.prog 63 #[.pointer (some ⟨db, 0, none⟩), .int .i64 i] w fun e w' => e = .returned (.tuple #[]) /\ DkStP xs mr R db Q D i tv wb w w' := by
 obtain ⟨o, ho⟩ : ∃ o, D.wk[i]? = some o := ⟨_, List.getElem?_eq_getElem hi⟩
 have d3 := row_cell h.blk (j := 3) rfl
 have dw := row_cell h.wrow (j := i) (u := wkV ls o) (by rw [List.getElem?_map, ho]; rfl)
 have h4 := h.ok.w4
 cases o with
 | some j =>
  obtain ⟨-, hs⟩ := dkStep_rest HW h h (Frm.refl _ _) hW (by rw [if_neg]; rw [ho]; simp) ho
  obtain ⟨rb, hrb, hst⟩ := hs j rfl
  have HST : Hid (Calls Tryz.prog 112 #[.pointer (some ⟨rb, 0, none⟩)] w _) := hst
  rw [hrb] at dw
  generalize DkStP xs mr R db Q D i tv wb w = PP at *
  generalize D.wk.length = M at *
  clear h hW ho hs hst hrb HW
  go_enter_defers Tryz.func63, Tryz.ntmps63
  go_wp2_with (go_at_call 112; refine (Calls.mono HST.out) ?_; rintro e w2 ⟨rfl, HDI⟩)
  refine leaves_cons (f := 110) (args := #[.pointer (some ⟨db, 0, none⟩)]) (by simp) (by simp [go_sem]) ?_
  refine (CallsD.mono HDI.out) ?_
  rintro e u' w6 ⟨rfl, rfl, hp⟩
  exact ⟨.tuple #[], by simp [results, Tryz.results63, go_sem], rfl, hp⟩
 | none =>
  have hgl := giveD_len D i
  have HGI : Hid (Calls Tryz.prog 111 #[.pointer (some ⟨db, 0, none⟩), .int .i64 i] w fun e w1 => e = .returned (.tuple #[]) /\ w1.cell? ⟨db, 3, none⟩ = some (.slice (some ⟨wb, 0, none⟩) D.wk.length D.wk.length) /\ ((w1.cell? ⟨wb, i, none⟩ = some (.pointer none) /\ Hid (CallsD Tryz.prog 110 #[.pointer (some ⟨db, 0, none⟩)] .returning w1 fun e u' w' => u' = .returning /\ (e = .returned (.tuple #[]) /\ DkStP xs mr R db Q D i tv wb w w'))) \/ ∃ rb, w1.cell? ⟨wb, i, none⟩ = some (.pointer (some ⟨rb, 0, none⟩)) /\ Hid (Calls Tryz.prog 112 #[.pointer (some ⟨rb, 0, none⟩)] w1 fun e w2 => e = .returned (.tuple #[]) /\ Hid (CallsD Tryz.prog 110 #[.pointer (some ⟨db, 0, none⟩)] .returning w2 fun e u' w' => u' = .returning /\ (e = .returned (.tuple #[]) /\ DkStP xs mr R db Q D i tv wb w w'))))) := by
   refine (dkGive_any h hW hi).mono ?_
   rintro e w1 ⟨rfl, hf, hD⟩
   obtain ⟨o1, ho1⟩ : ∃ o1, (giveD D i).wk[i]? = some o1 := ⟨_, List.getElem?_eq_getElem (by rw [hgl]; exact hi)⟩
   have d3' := row_cell hD.blk (j := 3) rfl
   have dw' := row_cell hD.wrow (j := i) (u := wkV ls o1) (by rw [List.getElem?_map, ho1]; rfl)
   obtain ⟨hn, hs⟩ := dkStep_rest HW h hD hf (giveD_w hW h.liveR i) (by rw [if_pos ho]) ho1
   have d3'' : w1.cell? ⟨db, 3, none⟩ = some (.slice (some ⟨wb, 0, none⟩) D.wk.length D.wk.length) := by rw [← hgl]; exact d3'
   refine ⟨rfl, d3'', ?_⟩
   cases o1 with
   | none => exact Or.inl ⟨dw', hn rfl⟩
   | some j =>
    obtain ⟨rb, hrb, hst⟩ := hs j rfl
    rw [hrb] at dw'
    exact Or.inr ⟨rb, dw', hst⟩
  have dw2 : w.cell? ⟨wb, i, none⟩ = some (.pointer none) := dw
  generalize DkStP xs mr R db Q D i tv wb w = PP at *
  generalize D.wk.length = M at *
  clear h hW ho HW dw hgl
  go_enter_defers Tryz.func63, Tryz.ntmps63
  go_wp2_with (first | (go_at_call 111; refine (Calls.mono HGI.out) ?_; rintro e w1 ⟨rfl, g3, ⟨gw, HDI⟩ | ⟨rb, gw, HST⟩⟩) | (go_at_call 112; refine (Calls.mono HST.out) ?_; rintro e w2 ⟨rfl, HDI⟩))
  all_goals
   refine leaves_cons (f := 110) (args := #[.pointer (some ⟨db, 0, none⟩)]) (by simp) (by simp [go_sem]) ?_
   refine (CallsD.mono HDI.out) ?_
   rintro e u' w6 ⟨rfl, rfl, hp⟩
   exact ⟨.tuple #[], by simp [results, Tryz.results63, go_sem], rfl, hp⟩
theorem dkHas_any {xs : List ByteArray} {mr : Nat} {R : Nat -> Prop} {db : Nat} {Q : Nat -> Prop} {D : Dk} {tv : Value} {wb : Nat} {ls : List Rl} {w : World} (h : DkAt xs mr R db Q D tv wb ls w) (id : Int) :
  Calls Tryz.prog 113 #[.pointer (some ⟨db, 0, none⟩), .int .i64 id] w fun e w' => e = .returned (.bool (hasD D id)) /\ w' = w := by
 have d2 := row_cell h.blk (j := 2) rfl
 obtain ⟨tx, tc, htv⟩ := owns_form h.row
 rw [htv, h.len] at d2
 unfold hasD
 generalize D.rs.length = N at *
 clear h htv
 by_cases h1 : 1 <= id
 ·have e1 : decide (1 <= id) = true := decide_eq_true h1
  rw [e1]
  go_enter Tryz.func113, Tryz.ntmps113
  go_wp2
  go_ret
  exact ⟨ret_bool (by simp), rfl⟩
 ·have e1 : decide (1 <= id) = false := decide_eq_false h1
  rw [e1]
  go_enter Tryz.func113, Tryz.ntmps113
  go_wp2
  go_ret
  exact ⟨ret_bool (by simp), rfl⟩
theorem dkHasW_any {xs : List ByteArray} {mr : Nat} {R : Nat -> Prop} {db : Nat} {Q : Nat -> Prop} {D : Dk} {tv : Value} {wb : Nat} {ls : List Rl} {w : World} (h : DkAt xs mr R db Q D tv wb ls w) (i : Int) :
  Calls Tryz.prog 62 #[.pointer (some ⟨db, 0, none⟩), .int .i64 i] w fun e w' => e = .returned (.bool (decide (0 <= i) && decide (i < (D.wk.length : Nat)))) /\ w' = w := by
 have d3 := row_cell h.blk (j := 3) rfl
 generalize D.wk.length = N at *
 clear h
 by_cases h1 : 0 <= i
 ·have e1 : decide (0 <= i) = true := decide_eq_true h1
  rw [e1]
  go_enter Tryz.func62, Tryz.ntmps62
  go_wp2
  go_ret
  exact ⟨ret_bool (by simp), rfl⟩
 ·have e1 : decide (0 <= i) = false := decide_eq_false h1
  rw [e1]
  go_enter Tryz.func62, Tryz.ntmps62
  go_wp2
  go_ret
  exact ⟨ret_bool (by simp), rfl⟩
theorem cellA {w : World} {b j : Nat} {u : Value} (h : w.cell? ⟨b, j, none⟩ = some u) (o : Obj) : (w.alloc o).cell? ⟨b, j, none⟩ = some u :=
 (World.cell?_of_block (a := ⟨b, j, none⟩) (Below.heap_alloc w o b (cell_lt h))).trans h
theorem ownsSet {w : World} {base b : Nat} {e : TypeId} {size n : Nat} {v : Value} {us : List Value} (h : w.ownsRow base e size v n us) (hb : b < base) (i : Nat) (u : Value) : (w.setCell ⟨b, i, none⟩ u).ownsRow base e size v n us :=
 owns_to h fun g hg => Below.heap_setCell _ _ _ _ (by have := (owns_lt h g hg).2.1; show g ≠ b; omega)
def noR : Rq := ⟨0, 0, false, [], none⟩
def pollR (D : Dk) (id : Int) : Rq := if hasD D id = true then (D.rs[id.toNat - 1]?).getD noR else noR
def PollP (r : Rq) (w : World) (e : Ending) (w' : World) : Prop :=
 ∃ o c, e = .returned (.agg #[.int .i64 r.is, .int .i64 r.st, .bool r.al, .slice o r.us.length c]) /\ w'.ownsRow w.heap.size 9 1 (.slice o r.us.length c) r.us.length (strV r.us) /\ Below w.heap.size w w'
theorem cloneT {w : World} {v : Value} {us : List ByteArray} (h : StrT w v us) (hl : us.length <= 50) : Calls Tryz.prog 49 #[v] w fun e w' => ∃ o c, e = .returned (.slice o us.length c) /\ w'.ownsRow w.heap.size 9 1 (.slice o us.length c) us.length (strV us) /\ Below w.heap.size w w' := by
 rcases h.strs with ⟨rfl, rfl⟩ | ⟨b0, o0, c0, rfl, hc0⟩
 ·refine (clone_nil w).mono ?_
  rintro e w' ⟨rfl, rfl⟩
  exact ⟨none, 0, rfl, World.ownsRow_nil _ _ _ _, Below.refl _ _⟩
 ·refine (clone_any b0 o0 c0 us w hc0 (by omega)).mono ?_
  rintro e w' ⟨g, c, rfl, ho, hb⟩
  exact ⟨_, _, rfl, ho, hb⟩
theorem dkState_any {xs : List ByteArray} {mr : Nat} {R : Nat -> Prop} {db : Nat} {Q : Nat -> Prop} {D : Dk} {tv : Value} {wb : Nat} {ls : List Rl} {w : World} (h : DkAt xs mr R db Q D tv wb ls w) (id : Int) :
  Calls Tryz.prog 64 #[.pointer (some ⟨db, 0, none⟩), .int .i64 id] w (PollP (pollR D id) w) := by
 have HHA : Hid (∀ w1, Below w.heap.size w w1 -> Calls Tryz.prog 113 #[.pointer (some ⟨db, 0, none⟩), .int .i64 id] w1 fun e w' => e = .returned (.bool (hasD D id)) /\ w' = w1) := fun w1 hb => dkHas_any (h.below hb) id
 unfold pollR
 cases hh : hasD D id with
 | false =>
  rw [hh] at HHA
  have e0 : (if (false : Bool) = true then (D.rs[id.toNat - 1]?).getD noR else noR) = noR := if_neg (by decide)
  rw [e0]
  clear h e0
  go_enter Tryz.func64, Tryz.ntmps64
  go_wp2_with (go_at_call 113; refine (HHA.out _ (by repeat (first | exact Below.refl _ _ | refine Below.setCell ?_ (by first | exact Nat.le_refl _ | (simp; done) | (simp; omega)) _ | refine below_drewN ?_ _ | refine Below.drew ?_ | refine Below.alloc ?_ (by first | exact Nat.le_refl _ | (simp; done) | (simp; omega)) _))).mono ?_; rintro e w1 ⟨rfl, hw1⟩; subst w1)
  refine bodyPost_ret (v := .agg #[.int .i64 0, .int .i64 0, .bool false, .slice none 0 0]) (by simp [results, Tryz.results64, go_sem]) rfl ⟨none, 0, rfl, World.ownsRow_nil _ _ _ _, by repeat (first | exact Below.refl _ _ | refine Below.setCell ?_ (by first | exact Nat.le_refl _ | (simp; done) | (simp; omega)) _ | refine below_drewN ?_ _ | refine Below.drew ?_ | refine Below.alloc ?_ (by first | exact Nat.le_refl _ | (simp; done) | (simp; omega)) _)⟩
 | true =>
  rw [hh] at HHA
  have hid : 1 <= id /\ id <= (D.rs.length : Nat) := by
   unfold hasD at hh
   rw [Bool.and_eq_true] at hh
   exact ⟨of_decide_eq_true hh.1, of_decide_eq_true hh.2⟩
  obtain ⟨n, rfl⟩ : ∃ n : Nat, id = (n : Int) + 1 := ⟨id.toNat - 1, by omega⟩
  have hn : n < D.rs.length := by omega
  have e0 : (if (true : Bool) = true then (D.rs[((n : Int) + 1).toNat - 1]?).getD noR else noR) = (D.rs[n]?).getD noR := by
   rw [if_pos rfl]
   have : ((n : Int) + 1).toNat - 1 = n := by omega
   rw [this]
  rw [e0]
  obtain ⟨l, r, hl, hr, hR⟩ := h.get hn
  obtain ⟨g, c, hg, hcell⟩ := h.cell hl
  rw [hr]
  show Calls _ _ _ _ (PollP r w)
  have h30 := h.ok.rl
  have d2 := row_cell h.blk (j := 2) rfl
  rw [hg, h.len] at d2
  have r0 := row_cell hR.blk (j := 0) rfl
  have r1 := row_cell hR.blk (j := 1) rfl
  have r2 := row_cell hR.blk (j := 2) rfl
  have r3 := row_cell hR.blk (j := 3) rfl
  have d2a := fun o => cellA d2 o
  have hca := fun o => cellA hcell o
  have r0a := fun o => cellA r0 o
  have r1a := fun o => cellA r1 o
  have r2a := fun o => cellA r2 o
  have r3a := fun o => cellA r3 o
  have huv : ∃ o n c, l.uv = .slice o n c := by
   rcases hR.us with ⟨e, -⟩ | ⟨b, cap, cur, e, -⟩
   ·exact ⟨_, _, _, e⟩
   ·exact ⟨_, _, _, e⟩
  obtain ⟨uo, un, uc, huv⟩ := huv
  have HCL : Hid (∀ w1, Below w.heap.size w w1 -> Calls Tryz.prog 49 #[.slice uo un uc] w1 fun e w' => ∃ o c, e = .returned (.slice o r.us.length c) /\ w'.ownsRow w1.heap.size 9 1 (.slice o r.us.length c) r.us.length (strV r.us) /\ Below w1.heap.size w1 w') := by
   intro w1 hb1
   rw [← huv]
   exact cloneT (strT_to hR.us fun k hk => hb1.block k (strT_own hR.us k hk).1) hR.ul
  have HPP : Hid (∀ (o : Option Addr) (c b : Nat) (w' : World), w.heap.size <= b -> w'.ownsRow b 9 1 (.slice o r.us.length c) r.us.length (strV r.us) -> Below w.heap.size w w' -> PollP r w (.returned (.agg #[.int .i64 r.is, .int .i64 r.st, .bool r.al, .slice o r.us.length c])) w') := fun o c b w' hb1 ho hb => ⟨o, c, rfl, owns_base ho hb1, hb⟩
  rw [huv] at r3 r3a
  generalize PollP r w = PP at *
  generalize l.rb = rb at *
  generalize r.us = us at *
  generalize r.is = is at *
  generalize r.st = st at *
  generalize r.al = al at *
  generalize D.rs.length = N at *
  clear h hR hl hr hg hh hid e0 huv d2 hcell r0 r1 r2 r3
  go_enter Tryz.func64, Tryz.ntmps64
  go_wp2_with (first | (go_at_call 113; refine (HHA.out _ (by repeat (first | exact Below.refl _ _ | refine Below.setCell ?_ (by first | exact Nat.le_refl _ | (simp; done) | (simp; omega)) _ | refine below_drewN ?_ _ | refine Below.drew ?_ | refine Below.alloc ?_ (by first | exact Nat.le_refl _ | (simp; done) | (simp; omega)) _))).mono ?_; rintro e w1 ⟨rfl, hw1⟩; subst w1) | (go_at_call 49; refine (HCL.out _ (by repeat (first | exact Below.refl _ _ | refine Below.setCell ?_ (by first | exact Nat.le_refl _ | (simp; done) | (simp; omega)) _ | refine below_drewN ?_ _ | refine Below.drew ?_ | refine Below.alloc ?_ (by first | exact Nat.le_refl _ | (simp; done) | (simp; omega)) _))).mono ?_; rintro e w2 ⟨o, c, rfl, ho2, hb2⟩; have hz2 : w.heap.size + 1 < w2.heap.size := (by have := hb2.size; simp at this; omega); have k0 := fun o => hb2.cell (p := ⟨w.heap.size, o, none⟩) (by simp; omega); have k1 := fun o => hb2.cell (p := ⟨w.heap.size + 1, o, none⟩) (by simp); have f0 := fun o => hb2.frozen (p := ⟨w.heap.size, o, none⟩) (by simp; omega); have f1 := fun o => hb2.frozen (p := ⟨w.heap.size + 1, o, none⟩) (by simp)))
  have hB2 : Below w.heap.size w w2 := (((Below.refl w.heap.size w).alloc (Nat.le_refl _) _).alloc (by simp) _).trans (hb2.mono (by simp; omega))
  refine bodyPost_ret (v := .agg #[.int .i64 is, .int .i64 st, .bool al, .slice o us.length c]) (by simp [results, Tryz.results64, go_sem, k0]) rfl ?_
  have ho3 := owns_base (base' := w.heap.size + 2) ho2 (by simp)
  refine HPP.out o c (w.heap.size + 2) _ (by omega) ?_ ?_
  ·exact ownsSet (ownsSet (ownsSet (ownsSet (ownsSet ho3 (by omega) _ _) (by omega) _ _) (by omega) _ _) (by omega) _ _) (by omega) _ _
  ·exact ((((hB2.setCell (Nat.le_succ _) _).setCell (Nat.le_refl _) _).setCell (Nat.le_refl _) _).setCell (Nat.le_refl _) _).setCell (Nat.le_refl _) _
def newR (t : Tk) : Rq := ⟨1, 0, false, [], some t⟩
structure TkNew (xs : List ByteArray) (mr : Nat) (R Q O : Nat -> Prop) (wkb : Nat) (met : List Nod) (t : Tk) (w : World) : Prop where
 wk : WkAt xs t.now t.x mr O wkb met 0 w
 lt : 0 < met.length
 sy : t.y.k.size + 1 + t.y.n.size <= maxLen
 b1 : 1 <= t.bud
 b9 : t.bud <= 1000000000
 t0 : 0 <= t.til
 t9 : t.til <= 1000000000
 oq : ∀ k, O k -> ¬ Q k
 ro : ∀ k, R k -> ¬ O k
theorem TkNew.rq {xs : List ByteArray} {mr : Nat} {R Q O : Nat -> Prop} {wkb : Nat} {met : List Nod} {t : Tk} {w : World} (h : TkNew xs mr R Q O wkb met t w) :
  RqAt xs mr (w.heap.size + 1) (fun k => O k \/ k = w.heap.size \/ k = w.heap.size + 1) (newR t) (.slice none 0 0) (.pointer (some ⟨w.heap.size, 0, none⟩)) ((w.alloc (.cells (tkL t wkb).toArray 115)).alloc (.cells (rqL (newR t) (.slice none 0 0) (.pointer (some ⟨w.heap.size, 0, none⟩))).toArray 161)) := by
 have s1 : (w.alloc (.cells (tkL t wkb).toArray 115)).heap.size = w.heap.size + 1 := by show (w.heap.push _).size = _; simp
 have s2 : ((w.alloc (.cells (tkL t wkb).toArray 115)).alloc (.cells (rqL (newR t) (.slice none 0 0) (.pointer (some ⟨w.heap.size, 0, none⟩))).toArray 161)).heap.size = w.heap.size + 2 := by
  show ((w.alloc (.cells (tkL t wkb).toArray 115)).heap.push _).size = _
  rw [Array.size_push, s1]
 have hb : Below w.heap.size w ((w.alloc (.cells (tkL t wkb).toArray 115)).alloc (.cells (rqL (newR t) (.slice none 0 0) (.pointer (some ⟨w.heap.size, 0, none⟩))).toArray 161)) := by repeat (first | exact Below.refl _ _ | refine Below.setCell ?_ (by first | exact Nat.le_refl _ | (simp; done) | (simp; omega)) _ | refine below_drewN ?_ _ | refine Below.drew ?_ | refine Below.alloc ?_ (by first | exact Nat.le_refl _ | (simp; done) | (simp; omega)) _)
 have h2 := alloc_new (w.alloc (.cells (tkL t wkb).toArray 115)) (rqL (newR t) (.slice none 0 0) (.pointer (some ⟨w.heap.size, 0, none⟩))) 161
 rw [s1] at h2
 refine ⟨h2, Or.inl ⟨rfl, rfl⟩, (fun k e => by cases e), (fun e => by cases e), fun t' e => ?_, ⟨(fun e => by cases e), fun e => absurd (Or.inl rfl) e⟩, fun _ => ⟨rfl, rfl, rfl⟩, Or.inr (Or.inr rfl), fun k e => ?_, by show 0 <= 32000000; omega, by show 0 <= 50; omega, by show (1 : Int) <= 1; decide, by show (1 : Int) <= 6; decide⟩
 ·injection e with e
  subst e
  have hO : ∀ k, O k -> k < w.heap.size := h.wk.lt
  exact ⟨w.heap.size, wkb, O, met, rfl, Or.inr (Or.inl rfl), fun k e => Or.inl e, fun e => by have := hO _ e; omega, alloc_row (alloc_new w (tkL t wkb) _) _, h.wk.below hb, fun e => by have := hO _ e; omega, h.lt, h.sy, by have := h.b1; show ((0 : Nat) : Int) < t.bud; omega, h.b9, h.t0, h.t9⟩
 ·rw [s2]
  rcases e with e | e | e
  ·have := h.wk.lt k e; omega
  ·omega
  ·omega
theorem DkAt.take {xs : List ByteArray} {mr : Nat} {R : Nat -> Prop} {db : Nat} {Q : Nat -> Prop} {D : Dk} {tv : Value} {wb : Nat} {ls : List Rl} {w w' : World} (h : DkAt xs mr R db Q D tv wb ls w) {O : Nat -> Prop} (hO : ∀ k, O k -> k < w.heap.size /\ ¬ Q k /\ ¬ R k) {rb : Nat} {r : Rq} {uv tp tv' : Value} {P : Nat -> Prop} (hP : ∀ k, P k -> O k \/ w.heap.size <= k) (hR : RqAt xs mr rb P r uv tp w')
  (hl : D.rs.length < 30) (hf : Frm (fun k => k = db \/ tv.ownBlock = some k) w w') (hb : w'.heap[db]? = some (.cells (deskL D.qu D.clock tv' (.slice (some ⟨wb, 0, none⟩) D.wk.length D.wk.length)).toArray 157 (0, 0))) (hrow : w'.ownsRow 0 158 1 tv' (ls.length + 1) (ls.map rlV ++ [.pointer (some ⟨rb, 0, none⟩)])) (hown : ∀ k, tv'.ownBlock = some k -> tv.ownBlock = some k \/ (w.heap.size <= k /\ ¬ P k)) :
  DkAt xs mr R db (fun k => Q k \/ O k \/ (w.heap.size <= k /\ k < w'.heap.size)) { D with rs := D.rs ++ [r] } tv' wb (ls ++ [⟨rb, P, uv, tp⟩]) w' := by
 have hXQ : ∀ k, (k = db \/ tv.ownBlock = some k) -> Q k := fun k e => by
  rcases e with e | e
  ·rw [e]; exact h.dQ
  ·exact h.tQ k e
 have hku : Kpt R (fun w => RulesN w mr xs) w' := h.ru.frm hf fun k hk e => h.rq k hk (hXQ k e)
 have hget : ∀ (i : Nat) (l : Rl), (ls ++ [⟨rb, P, uv, tp⟩])[i]? = some l -> (i < ls.length /\ ls[i]? = some l) \/ (i = ls.length /\ l = ⟨rb, P, uv, tp⟩) := by
  intro i l hi
  by_cases e : i < ls.length
  ·rw [List.getElem?_append_left e] at hi; exact Or.inl ⟨e, hi⟩
  ·have h2 := (List.getElem?_eq_some_iff.1 hi).1
   rw [List.length_append] at h2
   simp at h2
   have e2 : i = ls.length := by omega
   subst e2
   rw [List.getElem?_append_right (Nat.le_refl _)] at hi
   simp at hi
   exact Or.inr ⟨rfl, hi.symm⟩
 have hmem : ∀ a ∈ ls ++ [(⟨rb, P, uv, tp⟩ : Rl)], a ∈ ls \/ a = ⟨rb, P, uv, tp⟩ := fun a ha => by
  rcases List.mem_append.1 ha with e | e
  ·exact Or.inl e
  ·exact Or.inr (List.mem_singleton.1 e)
 have hPn : ∀ k, P k -> Q k -> False := fun k e q => by
  rcases hP k e with e | e
  ·exact (hO k e).2.1 q
  ·have := h.lt k q; omega
 have hlt' : ∀ k, P k -> k < w'.heap.size := hR.lt
 refine ⟨hb, ?_, ?_, ?_, ?_, ?_, ?_, Or.inl h.dQ, Or.inl h.wQ, fun k e => ?_, ?_, ?_, ?_, ?_, ?_, ?_, hku, ?_⟩
 ·rw [List.length_append, List.map_append]; exact hrow
 ·have e : D.wk.map (wkV (ls ++ [⟨rb, P, uv, tp⟩])) = D.wk.map (wkV ls) := by
   apply List.ext_getElem?
   intro i
   rw [List.getElem?_map, List.getElem?_map]
   cases ho : D.wk[i]? with
   | none => rfl
   | some o =>
    cases o with
    | none => rfl
    | some j =>
     have hj := h.ok.wj i j ho
     show some (wkV _ (some j)) = some (wkV _ (some j))
     rw [wkV_some, wkV_some]
     rw [List.getElem?_append_left (by rw [h.len]; exact hj)]
  show w'.heap[wb]? = some (Obj.cells (D.wk.map (wkV (ls ++ [⟨rb, P, uv, tp⟩]))).toArray _ _)
  rw [e, ← h.wrow]
  refine hf.block wb (row_lt h.wrow) fun e => ?_
  rcases e with e | e
  ·have h1 := h.wrow
   rw [e, h.blk] at h1
   injection h1 with h1
   injection h1 with _ h1
   revert h1; decide
  ·exact h.tw e
 ·show _ = (D.rs ++ [r]).length
  rw [List.length_append, List.length_append, h.len]; rfl
 ·intro i l q hi hq
  rcases hget i l hi with ⟨h1, h2⟩ | ⟨h1, h2⟩
  ·have hq2 : (D.rs ++ [r])[i]? = some q := hq
   rw [List.getElem?_append_left (by rw [← h.len]; exact h1)] at hq2
   have hA := h.at' i l q h2 hq2
   refine hA.keep hf.size (fun k hk => hf.block k (hA.lt k hk) fun e => ?_) hku.now
   rcases e with e | e
   ·exact h.dn l (List.mem_of_getElem? h2) (e ▸ hk)
   ·exact h.tn l (List.mem_of_getElem? h2) k e hk
  ·subst h1 h2
   have hq2 : (D.rs ++ [r])[ls.length]? = some q := hq
   rw [h.len, List.getElem?_append_right (Nat.le_refl _)] at hq2
   simp at hq2
   rw [← hq2]; exact hR
 ·intro i j l l' k hi hj pi pj
  rcases hget i l hi with ⟨h1, h2⟩ | ⟨h1, h2⟩
  ·rcases hget j l' hj with ⟨h3, h4⟩ | ⟨h3, h4⟩
   ·exact h.sep i j l l' k h2 h4 pi pj
   ·subst h4
    exact (hPn k pj (h.inQ l (List.mem_of_getElem? h2) k pi)).elim
  ·rcases hget j l' hj with ⟨h3, h4⟩ | ⟨h3, h4⟩
   ·subst h2
    exact (hPn k pi (h.inQ l' (List.mem_of_getElem? h4) k pj)).elim
   ·rw [h1, h3]
 ·intro a ha k pa
  rcases hmem a ha with e | e
  ·exact Or.inl (h.inQ a e k pa)
  ·subst e
   rcases hP k pa with e | e
   ·exact Or.inr (Or.inl e)
   ·exact Or.inr (Or.inr ⟨e, hlt' k pa⟩)
 ·rcases hown k e with e2 | e2
  ·exact Or.inl (h.tQ k e2)
  ·exact Or.inr (Or.inr ⟨e2.1, (owns_lt hrow k e).1⟩)
 ·intro a ha pa
  rcases hmem a ha with e | e
  ·exact h.dn a e pa
  ·subst e; exact hPn _ pa h.dQ
 ·intro a ha pa
  rcases hmem a ha with e | e
  ·exact h.wn a e pa
  ·subst e; exact hPn _ pa h.wQ
 ·intro a ha k hk pa
  rcases hown k hk with e2 | e2
  ·rcases hmem a ha with e | e
   ·exact h.tn a e k e2 pa
   ·subst e; exact hPn _ pa (h.tQ k e2)
  ·rcases hmem a ha with e | e
   ·have := h.lt k (h.inQ a e k pa); omega
   ·subst e; exact e2.2 pa
 ·intro e
  rcases hown wb e with e2 | e2
  ·exact h.tw e2
  ·have := h.lt wb h.wQ; omega
 ·intro k e
  rcases e with e | e | e
  ·exact Nat.lt_of_lt_of_le (h.lt k e) hf.size
  ·exact Nat.lt_of_lt_of_le (hO k e).1 hf.size
  ·exact e.2
 ·exact { h.ok with rl := by show (D.rs ++ [r]).length <= 30; rw [List.length_append]; simp; omega, wj := fun a b hab => by show b < (D.rs ++ [r]).length; rw [List.length_append]; have := h.ok.wj a b hab; omega }
 ·intro k hk e
  rcases e with e | e | e
  ·exact h.rq k hk e
  ·exact (hO k e).2.2 hk
  ·have := h.ru.lt k hk; omega
theorem pollR_at {D : Dk} {n : Nat} {r : Rq} (h : D.rs[n]? = some r) : pollR D ((n : Int) + 1) = r := by
 have hn := (List.getElem?_eq_some_iff.1 h).1
 unfold pollR
 have hh : hasD D ((n : Int) + 1) = true := by
  unfold hasD
  rw [Bool.and_eq_true]; exact ⟨decide_eq_true (by omega), decide_eq_true (by omega)⟩
 rw [hh, if_pos rfl]
 have e : ((n : Int) + 1).toNat - 1 = n := by omega
 rw [e, h]; rfl
def CheckP (xs now : List ByteArray) (s : ByteArray) (w : World) (e : Ending) (w' : World) : Prop :=
 ∃ (bo : Bool) (er : Int), e = .returned (.tuple #[.bool bo, .int .i64 er]) /\ Below w.heap.size w w' /\ er = (if queOk s = false \/ queC s = false then 4 else if hasR xs (queX s) = false then 5 else 0) /\ (bo = true ↔ er = 0 /\ ∃ u, InN (tsOf now) xs u (queX s) /\ thT u = thT (queY s))
theorem check_any (HN : Hid NodeC) (HW : Hid TWayC) {U xs now : List ByteArray} {b : Nat} {g : Pg} {w : World} (h : GateQ U xs now b g w) (s : ByteArray) (hs : s.size <= maxLen) (hQ : queOk s = true -> hasR xs (queX s) = true -> QueOk U s) (hO : okNd (queX s)) :
  Calls Tryz.prog 21 #[.pointer (some ⟨b, 0, none⟩), .string s] w (CheckP xs now s w) := by
 have hrq := readQuestion_any s w hs
 have HNO : Hid (∀ er : Int, er ≠ 0 -> er = (if queOk s = false \/ queC s = false then 4 else if hasR xs (queX s) = false then 5 else 0) -> ∀ w', Below w.heap.size w w' -> CheckP xs now s w (.returned (.tuple #[.bool false, .int .i64 er])) w') := by
  intro er he0 he w' hb
  exact ⟨false, er, rfl, hb, he, ⟨(fun e => by cases e), fun e => absurd e.1 he0⟩⟩
 cases hok : queOk s
 ·rw [hok, queVal_no hok] at hrq
  have H4 : Hid (∀ w', Below w.heap.size w w' -> CheckP xs now s w (.returned (.tuple #[.bool false, .int .i64 4])) w') := HNO.out 4 (by decide) (by rw [hok]; rfl)
  generalize CheckP xs now s w = P at *
  clear h hs hQ hO hok HNO HN HW
  go_enter Tryz.func21, Tryz.ntmps21
  go_wp2_with (go_at_call 45; refine hrq.mono ?_; rintro e w1 ⟨rfl, hb1⟩)
  exact H4.out _ (hb1.alloc hb1.size _)
 ·rw [hok, queVal_yes hok] at hrq
  have HIC : Hid (∀ w1, Calls Tryz.prog 46 #[.agg #[.string (queX s).k, .string (queX s).n, .string (queX s).r, .string (queY s).k, .string (queY s).n, .string (queY s).r]] w1 fun e w' => e = .returned (.bool (queC s)) /\ Below w1.heap.size w1 w') := fun w1 => isCheck_any _ _ _ _ _ _ w1
  cases hc : queC s
  ·rw [hc] at HIC
   have H4 : Hid (∀ w', Below w.heap.size w w' -> CheckP xs now s w (.returned (.tuple #[.bool false, .int .i64 4])) w') := HNO.out 4 (by decide) (by rw [hok, hc]; rfl)
   generalize CheckP xs now s w = P at *
   generalize queX s = x at *
   generalize queY s = y at *
   clear h hs hQ hO hok HNO HN HW hc
   go_enter Tryz.func21, Tryz.ntmps21
   go_wp2_with (first | (go_at_call 45; refine hrq.mono ?_; rintro e w1 ⟨rfl, hb1⟩) | (go_at_call 46; refine (HIC.out _).mono ?_; rintro e w2 ⟨rfl, hb2⟩; have hbB : Below w.heap.size w w2 := (hb1.alloc hb1.size _).trans (hb2.mono (by have := hb1.size; simp; omega))))
   exact H4.out _ hbB
  ·rw [hc] at HIC
   have HRU : Hid (∀ w1, Below w.heap.size w w1 -> Calls Tryz.prog 47 #[.pointer (some ⟨b, 0, none⟩), .agg #[.string (queX s).k, .string (queX s).n, .string (queX s).r]] w1 fun e w' => e = .returned (.bool (hasR xs (queX s))) /\ Below w1.heap.size w1 w') := fun w1 hb => hasR_any (h.to hb.block) hO
   cases hr : hasR xs (queX s)
   ·rw [hr] at HRU
    have H5 : Hid (∀ w', Below w.heap.size w w' -> CheckP xs now s w (.returned (.tuple #[.bool false, .int .i64 5])) w') := HNO.out 5 (by decide) (by rw [hok, hc, hr]; rfl)
    generalize CheckP xs now s w = P at *
    generalize queX s = x at *
    generalize queY s = y at *
    clear h hs hQ hO hok HNO HN HW hc hr
    go_enter Tryz.func21, Tryz.ntmps21
    go_wp2_with (first | (go_at_call 45; refine hrq.mono ?_; rintro e w1 ⟨rfl, hb1⟩) | (go_at_call 46; refine (HIC.out _).mono ?_; rintro e w2 ⟨rfl, hb2⟩; have hbB : Below w.heap.size w w2 := (hb1.alloc hb1.size _).trans (hb2.mono (by have := hb1.size; simp; omega)); have k0 := hb2.cell (p := ⟨w1.heap.size, 0, none⟩) (by simp); have k1 := hb2.cell (p := ⟨w1.heap.size, 1, none⟩) (by simp); have k2 := hb2.cell (p := ⟨w1.heap.size, 2, none⟩) (by simp)) | (go_at_call 47; refine (HRU.out _ hbB).mono ?_; rintro e w3 ⟨rfl, hb3⟩))
    exact H5.out _ (hbB.trans (hb3.mono hbB.size))
   ·rw [hr] at HRU
    have q := hQ hok hr
    have HAQ : Hid (∀ (wq : World) (qb : Nat), Below w.heap.size w wq -> wq.heap[qb]? = some (.cells (queL (queX s) (queY s)).toArray 77 (0, 0)) -> Calls Tryz.prog 42 #[.pointer (some ⟨b, 0, none⟩)] wq fun e w1 => ∃ tb, e = .returned (.pointer (some ⟨tb, 0, none⟩)) /\ w1.heap[qb]? = some (.cells (queL (queX s) (queY s)).toArray 77 (0, 0)) /\ Hid (∀ w1', Below w1.heap.size w1 w1' -> Calls Tryz.prog 43 #[.pointer (some ⟨tb, 0, none⟩), .agg #[.string (queX s).k, .string (queX s).n, .string (queX s).r]] w1' fun e w2 => ∃ wb, e = .returned (.pointer (some ⟨wb, 0, none⟩)) /\ w2.heap[qb]? = some (.cells (queL (queX s) (queY s)).toArray 77 (0, 0)) /\ Hid (∀ w2', Below w2.heap.size w2 w2' -> Calls Tryz.prog 48 #[.pointer (some ⟨wb, 0, none⟩), .agg #[.string (queY s).k, .string (queY s).n, .string (queY s).r]] w2' fun e w' => ∃ bo, e = .returned (.bool bo) /\ CheckP xs now s w (.returned (.tuple #[.bool bo, .int .i64 0])) w'))) := by
     intro wq qb hb hq
     refine (ask_q HN HW (h.to hb.block) q.ok q.th q.rU hq).mono ?_
     rintro e w1 ⟨tb, he, hq1, HC⟩
     refine ⟨tb, he, hq1, ?_⟩
     intro w1' hb1
     refine (HC.out w1' hb1).mono ?_
     rintro e w2 ⟨wb, he2, hq2, hA⟩
     refine ⟨wb, he2, hq2, ?_⟩
     intro w2' hb2
     refine (hA.out.has w2' hb2 (queY s) q.sz).mono ?_
     rintro e w' ⟨bo, he3, hiff, hbw⟩
     exact ⟨bo, he3, bo, 0, rfl, hb.trans (hbw.mono hb.size), by rw [hok, hc, hr]; rfl, hiff.trans ⟨fun e => ⟨rfl, e⟩, fun e => e.2⟩⟩
    generalize CheckP xs now s w = P at *
    clear q hQ hO
    generalize queX s = x at *
    generalize queY s = y at *
    clear h hs hok HNO HN HW hc hr
    go_enter Tryz.func21, Tryz.ntmps21
    go_wp2_with (first | (go_at_call 45; refine hrq.mono ?_; rintro e w1 ⟨rfl, hb1⟩) | (go_at_call 46; refine (HIC.out _).mono ?_; rintro e w2 ⟨rfl, hb2⟩; have hbB : Below w.heap.size w w2 := (hb1.alloc hb1.size _).trans (hb2.mono (by have := hb1.size; simp; omega)); have k0 := hb2.cell (p := ⟨w1.heap.size, 0, none⟩) (by simp); have k1 := hb2.cell (p := ⟨w1.heap.size, 1, none⟩) (by simp); have k2 := hb2.cell (p := ⟨w1.heap.size, 2, none⟩) (by simp); have hq2 : w2.heap[w1.heap.size]? = some (.cells (queL x y).toArray 77 (0, 0)) := (hb2.block _ (by simp)).trans (alloc_new w1 (queL x y) _)) | (go_at_call 47; refine (HRU.out _ hbB).mono ?_; rintro e w3 ⟨rfl, hb3⟩))
    have hbC : Below w.heap.size w w3 := hbB.trans (hb3.mono hbB.size)
    have hq3 : w3.heap[w1.heap.size]? = some (.cells (queL x y).toArray 77 (0, 0)) := (hb3.block _ (row_lt hq2)).trans hq2
    have HNW : Hid _ := HAQ.out w3.drew w1.heap.size hbC.drew hq3
    have l0 : w3.drew.cell? ⟨w1.heap.size, 0, none⟩ = some (.string x.k) := row_cell hq3 (j := 0) rfl
    have l1 : w3.drew.cell? ⟨w1.heap.size, 1, none⟩ = some (.string x.n) := row_cell hq3 (j := 1) rfl
    have l2 : w3.drew.cell? ⟨w1.heap.size, 2, none⟩ = some (.string x.r) := row_cell hq3 (j := 2) rfl
    have l3 : w3.drew.cell? ⟨w1.heap.size, 3, none⟩ = some (.string y.k) := row_cell hq3 (j := 3) rfl
    have l4 : w3.drew.cell? ⟨w1.heap.size, 4, none⟩ = some (.string y.n) := row_cell hq3 (j := 4) rfl
    have l5 : w3.drew.cell? ⟨w1.heap.size, 5, none⟩ = some (.string y.r) := row_cell hq3 (j := 5) rfl
    clear HAQ hq3 hq2 hbC hbB hb3 hb2 hb1 HIC HRU k0 k1 k2
    go_region_with (first | (go_at_call 42; refine (Calls.mono HNW.out) ?_; rintro e w4 ⟨tb, rfl, hq4, HWK⟩; have m0 := row_cell hq4 (j := 0) rfl; have m1 := row_cell hq4 (j := 1) rfl; have m2 := row_cell hq4 (j := 2) rfl; have m3 := row_cell hq4 (j := 3) rfl; have m4 := row_cell hq4 (j := 4) rfl; have m5 := row_cell hq4 (j := 5) rfl; clear hq4) | (go_at_call 43; refine (HWK.out _ (by repeat (first | exact Below.refl _ _ | refine Below.setCell ?_ (by first | exact Nat.le_refl _ | (simp; done) | (simp; omega)) _ | refine below_drewN ?_ _ | refine Below.drew ?_ | refine Below.alloc ?_ (by first | exact Nat.le_refl _ | (simp; done) | (simp; omega)) _))).mono ?_; rintro e w5 ⟨wb, rfl, hq5, HWH⟩; have p3 := row_cell hq5 (j := 3) rfl; have p4 := row_cell hq5 (j := 4) rfl; have p5 := row_cell hq5 (j := 5) rfl; clear hq5) | (go_at_call 48; refine (HWH.out _ (by repeat (first | exact Below.refl _ _ | refine Below.setCell ?_ (by first | exact Nat.le_refl _ | (simp; done) | (simp; omega)) _ | refine below_drewN ?_ _ | refine Below.drew ?_ | refine Below.alloc ?_ (by first | exact Nat.le_refl _ | (simp; done) | (simp; omega)) _))).mono ?_; rintro e w6 ⟨bo, rfl, hp⟩))
    all_goals go_wp2
    all_goals exact bodyPost_ret (v := .tuple #[.bool bo, .int .i64 0]) (by simp [results, Tryz.results21, go_sem]) rfl hp
theorem KG.writeL {w : World} {B gb : Nat} {g : Pg} {m : List (Value × Value)} {lo : Nat} {xs now : List ByteArray} (h : KG w B gb g m lo xs now) (hv : g.ver <= 999999) {bs ys : List ByteArray} (hs : ∀ s ∈ bs, s.size <= 1000) (hbl : bs.length <= 20) (hf : batchL (ruleOfs xs) now 0 bs = .inr ys) (hl : ys.length <= 50) (hso : Sorted ys) (bb cap : Nat) (hbb : bb ≠ gb) (hc : ∀ i x, bs[i]? = some x -> w.cell? ⟨bb, 0 + i, none⟩ = some (.string x)) :
  Calls Tryz.prog 24 #[.pointer (some ⟨gb, 0, none⟩), .slice (some ⟨bb, 0, none⟩) bs.length cap] w fun e w' => e = .returned (.tuple #[.int .i64 (g.ver + 1), .int .i64 0, .int .i64 0]) /\ w.grownBy w' (some gb) /\ ∃ v, (∀ j, v.ownBlock = some j -> w.heap.size <= j) /\ KG w' B gb { g with tv := v, ver := g.ver + 1 } m lo xs ys := by
 have hnb := strT_ne h.tv h.pg (by decide)
 obtain ⟨es, cl, hm1, hm2, hm3, hm4⟩ := h.map
 have hfs : ∀ s, faultG m s = faultS (ruleOfs xs) s := fun s => fault_same h.rmap hm4 h.okx s
 have key := ghWrite_open gb g m (ruleOfs xs) now bs bb 0 cap w h.pg h.lk h.cl h.rmap.ways h.map hfs h.tv.strs h.sorted h.nl hnb hc hbb hbl (fun x hx => by have := hs x hx; omega) ⟨h.ver0, by have := h.verV; omega⟩
 refine key.mono ?_
 intro e w' hp
 rw [hf] at hp
 obtain ⟨hk, hp⟩ := hp
 dsimp only at hp
 rw [if_neg (by omega)] at hp
 obtain ⟨v, rfl, hpg, hown⟩ := hp
 have sk : SK (onlyB gb) w w' := SK.gate hk (cs := g.cells) h.pg (by decide) rfl
 refine ⟨rfl, hk, v, fun j hj => (owns_lt hown j hj).2.1, hpg, sk.mapAt h.map, sk.rmap h.rmap, h.okx, h.few, owns_strT hown, hso, hl, ?_, h.lk, h.cl, by show 0 <= g.ver + 1; have := h.ver0; omega, by show g.ver + 1 <= 1000000; omega, h.gB⟩
 exact batch_good _ _ _ _ _ h.tup hf
def kb0 : List ByteArray := [⟨#[43, 103, 114, 111, 117, 112, 58, 122, 35, 109, 101, 109, 98, 101, 114, 64, 117, 115, 101, 114, 58, 122]⟩, ⟨#[43, 100, 111, 99, 58, 122, 35, 114, 101, 97, 100, 101, 114, 64, 103, 114, 111, 117, 112, 58, 122, 35, 109, 101, 109, 98, 101, 114]⟩]
def know0 : List ByteArray := [⟨#[100, 111, 99, 58, 122, 35, 114, 101, 97, 100, 101, 114, 64, 103, 114, 111, 117, 112, 58, 122, 35, 109, 101, 109, 98, 101, 114]⟩, ⟨#[103, 114, 111, 117, 112, 58, 122, 35, 109, 101, 109, 98, 101, 114, 64, 117, 115, 101, 114, 58, 122]⟩]
def kq0 : ByteArray := ⟨#[100, 111, 99, 58, 122, 35, 114, 101, 97, 100, 101, 114, 64, 117, 115, 101, 114, 58, 122]⟩
theorem kb0_done : batchL (ruleOfs krules) [] 0 kb0 = .inr know0 := by decide +kernel
theorem know0_sorted : Sorted know0 := by unfold Sorted know0; decide +kernel
theorem kq0_x : queX kq0 = ⟨docB, zB, readerB⟩ := by decide +kernel
theorem kq0_y : queY kq0 = ⟨userB, zB, noneB⟩ := by decide +kernel
theorem kq0_ok : queOk kq0 = true /\ queC kq0 = true /\ hasR krules (queX kq0) = true := by decide +kernel
theorem know0_ts : tsOf know0 = [(⟨docB, zB, readerB⟩, ⟨groupB, zB, memberB⟩), (⟨groupB, zB, memberB⟩, ⟨userB, zB, noneB⟩)] := by decide +kernel
theorem std_this {ts : List (Nod × Nod)} {rule : Nod -> WayT} {u x : Nod} (hr : rule x = thisW) : Std ts rule u x ↔ ∃ y ∈ subsOf ts x, inU u (Std ts rule u) y := by
 have : toldW ts (inU u (Std ts rule u)) x thisW ↔ ∃ y ∈ subsOf ts x, inU u (Std ts rule u) y := by
  unfold thisW
  rw [toldX_leaf (by decide) (by decide)]
  have e : namedW ts x (.mk 0 noneB noneB []) = subsOf ts x := by simp [namedW, isLeaf, leafW]
  rw [e]
 rw [Std.iff, hr, this]
theorem kq0_std : Std (tsOf know0) (ruleN krules) ⟨userB, zB, noneB⟩ ⟨docB, zB, readerB⟩ := by
 have h1 : Std (tsOf know0) (ruleN krules) ⟨userB, zB, noneB⟩ ⟨groupB, zB, memberB⟩ := by
  rw [std_this (kr_member zB)]
  exact ⟨⟨userB, zB, noneB⟩, mem_subsOf.2 (by rw [know0_ts]; simp), by unfold inU; rw [if_pos (by decide +kernel)]⟩
 rw [Std.iff, kr_reader zB, toldW, if_pos rfl, toldO]
 left
 unfold thisW
 rw [toldX_leaf (by decide) (by decide)]
 refine ⟨⟨groupB, zB, memberB⟩, ?_, ?_⟩
 ·have e : namedW (tsOf know0) ⟨docB, zB, readerB⟩ (.mk 0 noneB noneB []) = subsOf (tsOf know0) ⟨docB, zB, readerB⟩ := by simp [namedW, isLeaf, leafW]
  rw [e]
  exact mem_subsOf.2 (by rw [know0_ts]; simp)
 ·unfold inU
  rw [if_neg (by decide +kernel)]
  exact h1
theorem kq0_check {w : World} {e : Ending} {w' : World} (h : CheckP krules know0 kq0 w e w') : e = .returned (.tuple #[.bool true, .int .i64 0]) /\ Below w.heap.size w w' := by
 obtain ⟨bo, er, rfl, hb, he, hbo⟩ := h
 obtain ⟨q1, q2, q3⟩ := kq0_ok
 have e0 : er = 0 := by
  rw [he, q1, q2, q3]; rfl
 have e1 : bo = true := hbo.2 ⟨e0, ⟨userB, zB, noneB⟩, ⟨by decide +kernel, ⟨(⟨groupB, zB, memberB⟩, ⟨userB, zB, noneB⟩), by rw [know0_ts]; simp, rfl⟩, by rw [kq0_x]; exact kq0_std⟩, by rw [kq0_y]⟩
 rw [e0, e1]
 exact ⟨rfl, hb⟩
structure KD (w : World) (B gb : Nat) (g : Pg) (m : List (Value × Value)) (lo : Nat) (xs now : List ByteArray) (R Q : Nat -> Prop) (D : Dk) : Prop where
 pg : PgAt w gb g
 ru : Kpt R (fun w => MapAt w HeadG g.mb m /\ RMap w lo xs m) w
 okx : openErr xs = none
 few : xs.length <= 12
 tv : StrT w g.tv now
 sorted : Sorted now
 nl : now.length <= 50
 tup : ∀ s ∈ now, goodT (ruleOfs xs) s
 lk : g.lk = 0
 ver0 : 0 <= g.ver
 verV : g.ver <= 1000000
 gB : B <= gb
 dk : ∃ db tv wb ls, g.dk = .pointer (some ⟨db, 0, none⟩) /\ DkAt xs g.mb R db Q D tv wb ls w
 dw : DkW D
 gQ : ¬ Q gb
 gR : ¬ R gb
 vQ : ∀ k, g.tv.ownBlock = some k -> ¬ Q k
 QB : ∀ k, Q k -> B <= k
theorem KD.kg {w : World} {B gb : Nat} {g : Pg} {m : List (Value × Value)} {lo : Nat} {xs now : List ByteArray} {R Q : Nat -> Prop} {D : Dk} (h : KD w B gb g m lo xs now R Q D) (hc : g.cl = false) : KG w B gb g m lo xs now :=
 { pg := h.pg, map := h.ru.now.1, rmap := h.ru.now.2, okx := h.okx, few := h.few, tv := h.tv, sorted := h.sorted, nl := h.nl, tup := h.tup, lk := h.lk, cl := hc, ver0 := h.ver0, verV := h.verV, gB := h.gB }
theorem KD.lt {w : World} {B gb : Nat} {g : Pg} {m : List (Value × Value)} {lo : Nat} {xs now : List ByteArray} {R Q : Nat -> Prop} {D : Dk} (h : KD w B gb g m lo xs now R Q D) : (∀ k, Q k -> k < w.heap.size) /\ (∀ k, R k -> ¬ Q k) := by
 obtain ⟨db, tv, wb, ls, -, hd⟩ := h.dk
 exact ⟨hd.lt, hd.rq⟩
theorem KD.later {w w' : World} {B gb : Nat} {g : Pg} {m : List (Value × Value)} {lo : Nat} {xs now : List ByteArray} {R Q : Nat -> Prop} {D : Dk} (h : KD w B gb g m lo xs now R Q D) (hb : Below w.heap.size w w') : KD w' B gb g m lo xs now R Q D := by
 obtain ⟨db, tv, wb, ls, h1, hd⟩ := h.dk
 exact { h with pg := pg_below h.pg hb, ru := h.ru.below hb, tv := strT_to h.tv fun k hk => hb.block k (strT_own h.tv k hk).1, dk := ⟨db, tv, wb, ls, h1, hd.below hb⟩ }
theorem KD.doc {w : World} {B gb : Nat} {g : Pg} {m : List (Value × Value)} {lo : Nat} {xs now : List ByteArray} {R Q : Nat -> Prop} {D : Dk} (h : KD w B gb g m lo xs now R Q D) : DocOk xs now := by
 refine ⟨fun y hy => ?_, h.few, fun s hs => ?_, h.nl⟩
 ·obtain ⟨j, hj⟩ := List.mem_iff_getElem?.1 hy
  exact ok_all h.okx j y hj
 ·rw [← tuple_same]; exact (h.tup s hs).1
theorem KD.gate {w : World} {B gb : Nat} {g : Pg} {m : List (Value × Value)} {lo : Nat} {xs now : List ByteArray} {R Q : Nat -> Prop} {D : Dk} (h : KD w B gb g m lo xs now R Q D) (s : ByteArray) (hs : s.size <= maxLen) : GateQ (relU xs now s) xs now gb g w :=
 gateQ_of h.pg h.lk ⟨_, _, h.ru.now.1, h.ru.now.2⟩ h.tv h.nl h.few (fun y hy => (read_rule y (h.doc.hv y hy)).1) h.doc.ht s (que_sizesK s hs).2.2
theorem tv_ne_gate {w : World} {gb : Nat} {g : Pg} {now : List ByteArray} (ht : StrT w g.tv now) (hg : PgAt w gb g) : ∀ k, g.tv.ownBlock = some k -> k ≠ gb := by
 intro k hk e
 obtain ⟨-, cur, h1⟩ := strT_own ht k hk
 unfold PgAt at hg
 rw [e, hg] at h1
 injection h1 with h1
 injection h1 with _ h1
 revert h1; decide
theorem KD.turn {w w' : World} {B gb : Nat} {g : Pg} {m : List (Value × Value)} {lo : Nat} {xs now : List ByteArray} {R Q : Nat -> Prop} {D : Dk} (h : KD w B gb g m lo xs now R Q D) {Q' : Nat -> Prop} {D' : Dk} {c : Bool} (hf : Frm (fun k => Q k \/ k = gb) w w') (hpg : PgAt w' gb { g with cl := c }) {db : Nat} {tv : Value} {wb : Nat} {ls : List Rl} (hdb : g.dk = .pointer (some ⟨db, 0, none⟩)) (hd : DkAt xs g.mb R db Q' D' tv wb ls w') (hw : DkW D') (hQ : ∀ k, Q' k -> more Q w w' k) : KD w' B gb { g with cl := c } m lo xs now R Q' D' := by
 have hlt := row_lt h.pg
 have hB : B <= w.heap.size := Nat.le_trans h.gB (Nat.le_of_lt hlt)
 refine { h with pg := hpg, ru := h.ru.frm hf fun k hk e => ?_, tv := strT_to h.tv fun k hk => hf.block k (strT_own h.tv k hk).1 fun e => ?_, dk := ⟨db, tv, wb, ls, hdb, hd⟩, dw := hw, gQ := fun e => ?_, vQ := fun k hk e => ?_, QB := fun k e => ?_ }
 ·rcases e with e | e
  ·exact h.lt.2 k hk e
  ·exact h.gR (e ▸ hk)
 ·rcases e with e | e
  ·exact h.vQ k hk e
  ·exact tv_ne_gate h.tv h.pg k hk e
 ·rcases hQ _ e with e | e
  ·exact h.gQ e
  ·omega
 ·rcases hQ _ e with e | e
  ·exact h.vQ k hk e
  ·have := (strT_own h.tv k hk).1; omega
 ·rcases hQ _ e with e | e
  ·exact h.QB k e
  ·omega
theorem KD.lockd {w : World} {B gb : Nat} {g : Pg} {m : List (Value × Value)} {lo : Nat} {xs now : List ByteArray} {R Q : Nat -> Prop} {D : Dk} (h : KD w B gb g m lo xs now R Q D) : ∃ db tv wb ls, g.dk = .pointer (some ⟨db, 0, none⟩) /\ DkAt xs g.mb R db Q D tv wb ls (w.setCell ⟨gb, 0, none⟩ (.int .i32 1)) /\ PgAt (w.setCell ⟨gb, 0, none⟩ (.int .i32 1)) gb { g with lk := 1 } /\ Kpt R (fun w => MapAt w HeadG g.mb m /\ RMap w lo xs m) (w.setCell ⟨gb, 0, none⟩ (.int .i32 1)) /\ StrT (w.setCell ⟨gb, 0, none⟩ (.int .i32 1)) g.tv now /\ Frm (fun k => k = gb) w (w.setCell ⟨gb, 0, none⟩ (.int .i32 1)) /\ (w.setCell ⟨gb, 0, none⟩ (.int .i32 1)).heap.size = w.heap.size := by
 obtain ⟨db, tv, wb, ls, h1, hd⟩ := h.dk
 have hf : Frm (fun k => k = gb) w (w.setCell ⟨gb, 0, none⟩ (.int .i32 1)) := ⟨rfl, rfl, rfl, by simp [World.setCell], fun k _ hx => Below.heap_setCell _ _ _ _ hx⟩
 refine ⟨db, tv, wb, ls, h1, hd.keep hf.size (fun k hk => hf.block k (hd.lt k hk) fun e => h.gQ (e ▸ hk)) (fun k hk => hf.block k (hd.ru.lt k hk) fun e => h.gR (e ▸ hk)), pg_lock h.pg 1, h.ru.frm hf fun k hk e => h.gR (e ▸ hk), strT_to h.tv fun k hk => hf.block k (strT_own h.tv k hk).1 (tv_ne_gate h.tv h.pg k hk), hf, by simp [World.setCell]⟩
theorem KD.wrote {w w' : World} {B gb : Nat} {g : Pg} {m : List (Value × Value)} {lo : Nat} {xs now ys : List ByteArray} {R Q : Nat -> Prop} {D : Dk} (h : KD w B gb g m lo xs now R Q D) (hk : w.grownBy w' (some gb)) {v : Value} (hv : ∀ j, v.ownBlock = some j -> w.heap.size <= j) (kg : KG w' B gb { g with tv := v, ver := g.ver + 1 } m lo xs ys) : KD w' B gb { g with tv := v, ver := g.ver + 1 } m lo xs ys R Q D := by
 obtain ⟨db, tv, wb, ls, h1, hd⟩ := h.dk
 have hblk : ∀ k, k < w.heap.size -> k ≠ gb -> w'.heap[k]? = w.heap[k]? := fun k h1 h2 => hk.block k h1 fun e => h2 (Option.some.inj e)
 exact { pg := kg.pg, ru := h.ru.to hk.size fun k hk => hblk k (h.ru.lt k hk) fun e => h.gR (e ▸ hk), okx := h.okx, few := h.few, tv := kg.tv, sorted := kg.sorted, nl := kg.nl, tup := kg.tup, lk := h.lk, ver0 := kg.ver0, verV := kg.verV, gB := h.gB, dk := ⟨db, tv, wb, ls, h1, hd.keep hk.size (fun k hk => hblk k (hd.lt k hk) fun e => h.gQ (e ▸ hk)) (fun k hk => hblk k (hd.ru.lt k hk) fun e => h.gR (e ▸ hk))⟩, dw := h.dw, gQ := h.gQ, gR := h.gR, vQ := fun k hk e => by have := hv k hk; have := hd.lt k e; omega, QB := h.QB }
def newD (wk : Nat) (qu : Int) : Dk := ⟨qu, 0, [], List.replicate wk none⟩
theorem deskNew_at {w : World} {lo db wk : Nat} {qu : Int} (h : DeskNew w lo db wk qu) (h1 : 1 <= wk) (h4 : wk <= 4) (q1 : 1 <= qu) (q6 : qu <= 6) {xs : List ByteArray} {mr : Nat} {R : Nat -> Prop} (ru : Kpt R (fun w => RulesN w mr xs) w) (hR : ∀ k, R k -> (∃ es cl, w.heap[k]? = some (.map es cl)) \/ ∃ cur, w.heap[k]? = some (.cells cur 106 (0, 0))) :
  ∃ wb, lo <= wb /\ DkAt xs mr R db (fun k => k = db \/ k = wb) (newD wk qu) (.slice none 0 0) wb [] w := by
 obtain ⟨hlo, wb, hwb, hb, hr⟩ := h
 have hq : ∀ k, R k -> ¬ (k = db \/ k = wb) := by
  intro k hk e
  rcases e with e | e
  ·rcases hR k hk with ⟨es, cl, h2⟩ | ⟨cur, h2⟩
   ·rw [e, hb] at h2; injection h2 with h2; cases h2
   ·rw [e, hb] at h2; injection h2 with h2; injection h2 with _ h2; revert h2; decide
  ·rcases hR k hk with ⟨es, cl, h2⟩ | ⟨cur, h2⟩
   ·rw [e, hr] at h2; injection h2 with h2; cases h2
   ·rw [e, hr] at h2; injection h2 with h2; injection h2 with _ h2; revert h2; decide
 refine ⟨wb, hwb, ?_⟩
 have hm : (List.replicate wk (none : Option Nat)).map (wkV []) = noReq wk := by rw [List.map_replicate]; rfl
 refine ⟨?_, World.ownsRow_nil _ _ _ _, ?_, rfl, (fun i l r hl => by simp at hl), (fun i j l l' k hl => by simp at hl), (fun l hl => by cases hl), Or.inl rfl, Or.inr rfl, (fun k e => by cases e), (fun l hl => by cases hl), (fun l hl => by cases hl), (fun l hl => by cases hl), (fun e => by cases e), fun k e => ?_, ?_, ru, hq⟩
 ·show _ = some (Obj.cells (deskL qu 0 (.slice none 0 0) (.slice (some ⟨wb, 0, none⟩) (List.replicate wk (none : Option Nat)).length (List.replicate wk (none : Option Nat)).length)).toArray _ _)
  rw [List.length_replicate]; exact hb
 ·show _ = some (Obj.cells ((List.replicate wk (none : Option Nat)).map (wkV [])).toArray _ _)
  rw [hm]; exact hr
 ·rcases e with e | e
  ·rw [e]; exact row_lt hb
  ·rw [e]; exact row_lt hr
 ·refine ⟨?_, ?_, ?_, ?_, ?_, q1, q6, fun i j hij => ?_⟩
  ·show 1 <= (List.replicate wk (none : Option Nat)).length; rw [List.length_replicate]; exact h1
  ·show (List.replicate wk (none : Option Nat)).length <= 4; rw [List.length_replicate]; exact h4
  ·show 0 <= 30; omega
  ·show (0 : Int) <= 0; decide
  ·show (0 : Int) <= 1000000000; decide
  ·have h2 : (List.replicate wk (none : Option Nat))[i]? = some (some j) := hij
   rw [List.getElem?_replicate] at h2
   split at h2
   ·injection h2 with h2; cases h2
   ·cases h2
theorem newD_w (wk : Nat) (qu : Int) : DkW (newD wk qu) := by
 intro i j r hi hr
 have h2 : ([] : List Rq)[j]? = some r := hr
 simp at h2
theorem KD.new {xs : List ByteArray} {wk : Nat} {qu : Int} {w : World} {e : Ending} {w' : World} (hp : POPost xs wk qu w e w') (ha : argsBad xs.length wk qu = false) (ho : openErr xs = none) (hf : xs.length <= 12) (h1 : 1 <= wk) (h4 : wk <= 4) (q1 : 1 <= qu) (q6 : qu <= 6) :
  ∃ gb g m R Q, e = .returned (.tuple #[.pointer (some ⟨gb, 0, none⟩), .int .i64 0, .int .i64 0]) /\ Below w.heap.size w w' /\ g.ver = 0 /\ g.cl = false /\ KD w' w.heap.size gb g m w.heap.size xs [] R Q (newD wk qu) := by
 obtain ⟨hb, ⟨h, -⟩ | ⟨-, ⟨k, c, h, -⟩ | ⟨-, b, mb, m, db, he, hlo, hpg, hmb, hm, hr, hd⟩⟩⟩ := hp
 ·rw [ha] at h; cases h
 ·rw [ho] at h; cases h
 ·have hpg2 : PgAt w' b ⟨0, mb, .slice none 0 0, 0, .pointer (some ⟨db, 0, none⟩), false⟩ := hpg
  have hlm := hm.lt
  have hm2 := hm
  obtain ⟨es, cl, hmm, -⟩ := hm2
  have ru : Kpt (fun k => k = mb \/ ∃ cur, w'.heap[k]? = some (.cells cur 106 (0, 0))) (fun v => MapAt v HeadG mb m /\ RMap v w.heap.size xs m) w' := by
   refine ⟨fun v hv => ⟨hm.move (hv mb (Or.inl rfl)), hr.move fun g cur _ hc => hv g (Or.inr ⟨cur, hc⟩)⟩, fun k e => ?_⟩
   rcases e with e | ⟨cur, e⟩
   ·rw [e]; exact hlm
   ·exact row_lt e
  have ru2 : Kpt (fun k => k = mb \/ ∃ cur, w'.heap[k]? = some (.cells cur 106 (0, 0))) (fun v => RulesN v mb xs) w' := ⟨fun v hv => ⟨m, _, (ru.all v hv).1, (ru.all v hv).2⟩, ru.lt⟩
  have hd' : DeskNew w' w.heap.size db wk qu := by
   have e : ((wk : Int)).toNat = wk := Int.toNat_natCast wk
   rw [e] at hd; exact hd
  have hd0 := hd'
  obtain ⟨hdl, wb0, -, hdb, hdw⟩ := hd0
  obtain ⟨wb, hwb, hdk⟩ := deskNew_at hd' h1 h4 q1 q6 ru2 (fun k e => by
   rcases e with e | e
   ·exact Or.inl ⟨es, cl, by rw [e]; exact hmm⟩
   ·exact Or.inr e)
  refine ⟨b, ⟨0, mb, .slice none 0 0, 0, .pointer (some ⟨db, 0, none⟩), false⟩, m, _, _, he, hb, rfl, rfl, { pg := hpg2, ru := ru, okx := ho, few := hf, tv := Or.inl ⟨rfl, rfl⟩, sorted := List.Pairwise.nil, nl := by simp, tup := (fun s hs => by cases hs), lk := rfl, ver0 := Int.le_refl _, verV := (by show (0 : Int) <= 1000000; decide), gB := hlo, dk := ⟨db, _, wb, [], rfl, hdk⟩, dw := newD_w _ _, gQ := fun e => ?_, gR := fun e => ?_, vQ := (fun k e => by cases e), QB := fun k e => ?_ }⟩
  ·rcases e with e | e
   ·rw [e, hdk.blk] at hpg; injection hpg with h2; injection h2 with _ h2; revert h2; decide
   ·rw [e, hdk.wrow] at hpg; injection hpg with h2; injection h2 with _ h2; revert h2; decide
  ·rcases e with e | ⟨cur, e⟩
   ·rw [e, hmm] at hpg; injection hpg with h2; cases h2
   ·rw [e] at hpg; injection hpg with h2; injection h2 with _ h2; revert h2; decide
  ·rcases e with e | e
   ·rw [e]; exact hdl
   ·rw [e]; exact hwb
theorem KD.base {w : World} {B B' gb : Nat} {g : Pg} {m : List (Value × Value)} {lo : Nat} {xs now : List ByteArray} {R Q : Nat -> Prop} {D : Dk} (h : KD w B gb g m lo xs now R Q D) (hb : B' <= B) : KD w B' gb g m lo xs now R Q D :=
 { h with gB := Nat.le_trans hb h.gB, QB := fun k e => Nat.le_trans hb (h.QB k e) }
def KOpenD (wk : Nat) (qu : Int) (w : World) (e : Ending) (w' : World) : Prop :=
 ∃ gb g m lo R Q, e = .returned (.pointer (some ⟨gb, 0, none⟩)) /\ Below w.heap.size w w' /\ g.ver = 1 /\ g.cl = false /\ KD w' w.heap.size gb g m lo krules know0 R Q (newD wk qu)
theorem kopenD_chain (HN : Hid NodeC) (HW : Hid TWayC) {w : World} {wk : Nat} {qu : Int} (h1 : 1 <= wk) (h2 : wk <= 4) (h3 : 1 <= qu) (h4 : qu <= 6) {w1 : World} (hb1 : Below w.heap.size w w1) (hrow : RowAt w1 w.heap.size krules) :
  Calls Tryz.prog 26 #[.slice (some ⟨w.heap.size, 0, none⟩) 7 7, .int .i64 wk, .int .i64 qu] w1 fun e w2 => ∃ gb, e = .returned (.tuple #[.pointer (some ⟨gb, 0, none⟩), .int .i64 0, .int .i64 0]) /\
   Hid (Calls Tryz.prog 24 #[.pointer (some ⟨gb, 0, none⟩), .slice (some ⟨w2.heap.size, 0, none⟩) 2 2] (w2.alloc (.cells (strV kb0).toArray 9)) fun e w3 => e = .returned (.tuple #[.int .i64 1, .int .i64 0, .int .i64 0]) /\
    Hid (Calls Tryz.prog 21 #[.pointer (some ⟨gb, 0, none⟩), .string kq0] w3 fun e w4 => e = .returned (.tuple #[.bool true, .int .i64 0]) /\ KOpenD wk qu w (.returned (.pointer (some ⟨gb, 0, none⟩))) w4)) := by
 have hst : StrsAt w1 (.slice (some ⟨w.heap.size, 0, none⟩) 7 7) krules := Or.inr ⟨w.heap.size, 0, 7, rfl, fun i x hx => by rw [Nat.zero_add]; exact row_cell hrow (strV_get hx)⟩
 refine (ghOpen_any _ krules (wk : Int) qu w1 hst (by rw [krules_len]; unfold maxLen; omega)).mono ?_
 intro e w2 hp
 have ha : argsBad krules.length (wk : Int) qu = false := by
  rw [krules_len]
  unfold argsBad
  simp only [Bool.or_eq_false_iff, decide_eq_false_iff_not]
  omega
 obtain ⟨gb, g, m, R, Q, rfl, hb2, hv, hcl, kd⟩ := KD.new hp ha krules_ok (by rw [krules_len]; omega) h1 h2 h3 h4
 refine ⟨gb, rfl, ?_⟩
 have hb2a : Below w2.heap.size w2 (w2.alloc (.cells (strV kb0).toArray 9)) := (Below.refl _ _).alloc (Nat.le_refl _) _
 have hgl := row_lt kd.pg
 refine (((kd.later hb2a).kg hcl).writeL (by rw [hv]; decide) (bs := kb0) (ys := know0) (by decide) (by decide) kb0_done (by decide) know0_sorted w2.heap.size 2 (by omega) (fun i x hx => by rw [Nat.zero_add]; exact row_cell (alloc_new w2 (strV kb0) _) (strV_get hx))).mono ?_
 rintro e w3 ⟨rfl, hk, v, hvb, kg3⟩
 have kd3 := (kd.later hb2a).wrote hk hvb kg3
 refine ⟨by rw [hv]; rfl, ?_⟩
 refine (check_any HN HW (kd3.gate kq0 (by unfold maxLen; decide)) kq0 (by unfold maxLen; decide) (fun h _ => queOk_of h krules know0) (que_sizesK kq0 (by unfold maxLen; decide))).mono ?_
 intro e w4 hq
 obtain ⟨rfl, hb4⟩ := kq0_check hq
 have hb02 : Below w.heap.size w w2 := hb1.trans (hb2.mono hb1.size)
 have hb03 : Below w.heap.size w w3 := by
  have hs : w.heap.size <= w1.heap.size := hb1.size
  have h := kd.gB
  exact (hb02.trans (hb2a.mono hb02.size)).grown hk (Nat.le_trans hb02.size hb2a.size) (fun j hj => by injection hj with hj; omega)
 exact ⟨rfl, gb, { g with tv := v, ver := g.ver + 1 }, m, _, R, Q, rfl, hb03.trans (hb4.mono hb03.size), by show g.ver + 1 = 1; rw [hv]; rfl, hcl, (kd3.later hb4).base hb1.size⟩
theorem kOpenD (HN : Hid NodeC) (HW : Hid TWayC) (w : World) (wk : Nat) (qu : Int) (h1 : 1 <= wk) (h2 : wk <= 4) (h3 : 1 <= qu) (h4 : qu <= 6) :
  Calls Tryz.prog 14 #[.int .i64 wk, .int .i64 qu] w (KOpenD wk qu w) := by
 have hru := krules_any w
 have HC0 : Hid (1 <= wk /\ wk <= 4 /\ 1 <= qu /\ qu <= 6) := ⟨h1, h2, h3, h4⟩
 clear h1 h2 h3 h4
 go_enter Tryz.func14, Tryz.ntmps14
 go_wp2_with (first | (go_at_call 38; refine hru.mono ?_; rintro e w1 ⟨rfl, hrow, hb1⟩; have HO : Hid (Calls Tryz.prog 26 #[.slice (some ⟨w.heap.size, 0, none⟩) 7 7, .int .i64 wk, .int .i64 qu] w1 _) := kopenD_chain HN HW HC0.out.1 HC0.out.2.1 HC0.out.2.2.1 HC0.out.2.2.2 hb1 hrow; clear hrow hb1) | (go_at_call 26; refine HO.out.mono ?_; rintro e w2 ⟨gb, rfl, HWR⟩) | (go_at_call 24; refine HWR.out.mono ?_; rintro e w3 ⟨rfl, HC⟩) | (go_at_call 21; refine HC.out.mono ?_; rintro e w4 ⟨rfl, hp⟩; have HP : Hid (KOpenD wk qu w (.returned (.pointer (some ⟨gb, 0, none⟩))) w4) := hp; clear hp))
 go_ret
 exact HP.out
def OpP (w : World) (B gb : Nat) (g : Pg) (m : List (Value × Value)) (lo : Nat) (xs now : List ByteArray) (R Q : Nat -> Prop) (c : Bool) (Rel : Dk -> Prop) (w' : World) : Prop :=
 ∃ Q' D', Rel D' /\ KD w' B gb { g with cl := c } m lo xs now R Q' D' /\ Frm (fun k => Q k \/ k = gb) w w' /\ ∀ k, Q' k -> more Q w w' k
theorem KD.done {w : World} {B gb : Nat} {g : Pg} {m : List (Value × Value)} {lo : Nat} {xs now : List ByteArray} {R Q : Nat -> Prop} {D : Dk} (h : KD w B gb g m lo xs now R Q D) {w2 : World} (hf : Frm (fun k => Q k \/ k = gb) w w2) {c : Bool} (hpg : PgAt w2 gb { g with lk := 1, cl := c }) {db : Nat} {tv : Value} {wb : Nat} {ls : List Rl} {Q' : Nat -> Prop} {D' : Dk} (hdb : g.dk = .pointer (some ⟨db, 0, none⟩)) (hd : DkAt xs g.mb R db Q' D' tv wb ls w2) (hw : DkW D') (hQ : ∀ k, Q' k -> more Q w w2 k) {Rel : Dk -> Prop} (hr : Rel D') : OpP w B gb g m lo xs now R Q c Rel (w2.setCell ⟨gb, 0, none⟩ (.int .i32 0)) := by
 have hlt := row_lt h.pg
 have hz : (w2.setCell ⟨gb, 0, none⟩ (.int .i32 0)).heap.size = w2.heap.size := by simp [World.setCell]
 have hf3 : Frm (fun k => k = gb) w2 (w2.setCell ⟨gb, 0, none⟩ (.int .i32 0)) := ⟨rfl, rfl, rfl, by rw [hz]; exact Nat.le_refl _, fun k _ hx => Below.heap_setCell _ _ _ _ hx⟩
 have hff : Frm (fun k => Q k \/ k = gb) w (w2.setCell ⟨gb, 0, none⟩ (.int .i32 0)) := hf.trans hf3 fun k _ e => Or.inr e
 have hgQ : ¬ Q' gb := fun e => by
  rcases hQ _ e with e | e
  ·exact h.gQ e
  ·omega
 have hQ3 : ∀ k, Q' k -> more Q w (w2.setCell ⟨gb, 0, none⟩ (.int .i32 0)) k := fun k e => by
  rcases hQ k e with e | e
  ·exact Or.inl e
  ·exact Or.inr ⟨e.1, by rw [hz]; exact e.2⟩
 have hpg3 : PgAt (w2.setCell ⟨gb, 0, none⟩ (.int .i32 0)) gb { g with cl := c } := by
  have := pg_lock hpg 0
  obtain ⟨lk, mb, tv', ver, dk, cl⟩ := g
  have hlk : lk = 0 := h.lk
  subst hlk
  exact this
 exact ⟨Q', D', hr, h.turn hff hpg3 hdb (hd.keep hf3.size (fun k hk => hf3.block k (hd.lt k hk) fun e => hgQ (e ▸ hk)) (fun k hk => hf3.block k (hd.ru.lt k hk) fun e => h.gR (e ▸ hk))) hw hQ3, hff, hQ3⟩
open Go.RowKit Go.Shelf Go.MuLone
theorem KD.after {w : World} {B gb : Nat} {g : Pg} {m : List (Value × Value)} {lo : Nat} {xs now : List ByteArray} {R Q : Nat -> Prop} {D : Dk} (h : KD w B gb g m lo xs now R Q D) {w2 : World} {db : Nat} {tv : Value} {wb : Nat} {ls : List Rl} (hdb : g.dk = .pointer (some ⟨db, 0, none⟩)) (hf : Frm Q (w.setCell ⟨gb, 0, none⟩ (.int .i32 1)) w2) {Q' : Nat -> Prop} {D' : Dk} (hd : DkAt xs g.mb R db Q' D' tv wb ls w2) (hw : DkW D') (hQ : ∀ k, Q' k -> more Q w w2 k) {Rel : Dk -> Prop} (hr : Rel D') :
  w2.cell? ⟨gb, 0, none⟩ = some (.int .i32 1) /\ w2.frozen? ⟨gb, 0, none⟩ = false /\ OpP w B gb g m lo xs now R Q g.cl Rel (w2.setCell ⟨gb, 0, none⟩ (.int .i32 0)) := by
 obtain ⟨-, -, -, -, -, -, hpg1, -, -, hf1, hz1⟩ := h.lockd
 have hg := row_lt hpg1
 have hpg2 : PgAt w2 gb { g with lk := 1 } := (hf.block gb hg h.gQ).trans hpg1
 exact ⟨row_cell hpg2 (j := 0) rfl, row_frozen hpg2 0, h.done ((hf1.mono fun k _ e => Or.inr e).trans hf fun k _ e => Or.inl e) hpg2 hdb hd hw hQ hr⟩
theorem more_at {Q : Nat -> Prop} {w w1 w2 : World} (hz : w1.heap.size = w.heap.size) {k : Nat} (e : more Q w1 w2 k) : more Q w w2 k := by
 rcases e with e | e
 ·exact Or.inl e
 ·exact Or.inr ⟨by omega, e.2⟩
theorem dstep_w {xs : List ByteArray} {D : Dk} {i : Nat} {D' : Dk} (hs : DStep xs D i D') (hW : DkW D) (hl : ∀ (k : Nat) (r : Rq), D.rs[k]? = some r -> r.is = 1 -> r.tk ≠ none) : DkW D' := by
 cases hs with
 | idle D1 h1 h2 =>
  rw [h1]
  split
  ·exact giveD_w hW hl i
  ·exact hW
 | work D1 h1 j h2 r r' t fin hr ht hs => exact dismissD_w _
theorem gStep_ok (HW : Hid TWayC) {w : World} {B gb : Nat} {g : Pg} {m : List (Value × Value)} {lo : Nat} {xs now : List ByteArray} {R Q : Nat -> Prop} {D : Dk} (h : KD w B gb g m lo xs now R Q D) (hc : g.cl = false) {i : Nat} (hi : i < D.wk.length) :
  Calls Tryz.prog 28 #[.pointer (some ⟨gb, 0, none⟩), .int .i64 i] w fun e w' => e = .returned (.int .i64 0) /\ OpP w B gb g m lo xs now R Q g.cl (DStep xs D i) w' := by
 obtain ⟨db, tv, wb, ls, hdb, hd1, hpg1, -, -, hf1, hz1⟩ := h.lockd
 have hM := h.dw
 have HHW : Hid (Calls Tryz.prog 62 #[.pointer (some ⟨db, 0, none⟩), .int .i64 i] (w.setCell ⟨gb, 0, none⟩ (.int .i32 1)) fun e w' => e = .returned (.bool true) /\ w' = (w.setCell ⟨gb, 0, none⟩ (.int .i32 1))) := by
  refine (dkHasW_any hd1 (i : Int)).mono ?_
  rintro e w' ⟨rfl, hw⟩
  have e2 : (decide ((0 : Int) <= i) && decide ((i : Int) < (D.wk.length : Nat))) = true := by
   rw [Bool.and_eq_true]; exact ⟨decide_eq_true (by omega), decide_eq_true (by omega)⟩
  exact ⟨by rw [e2], hw⟩
 have HST : Hid (Calls Tryz.prog 63 #[.pointer (some ⟨db, 0, none⟩), .int .i64 i] (w.setCell ⟨gb, 0, none⟩ (.int .i32 1)) fun e w2 => e = .returned (.tuple #[]) /\ w2.cell? ⟨gb, 0, none⟩ = some (.int .i32 1) /\ w2.frozen? ⟨gb, 0, none⟩ = false /\ Hid (OpP w B gb g m lo xs now R Q g.cl (DStep xs D i) (w2.setCell ⟨gb, 0, none⟩ (.int .i32 0)))) := by
  refine (dkStep_any HW hd1 hM hi).mono ?_
  rintro e w2 ⟨rfl, hf, D', ls', hs, hD⟩
  exact ⟨rfl, h.after hdb hf hD (dstep_w hs hM hd1.liveR) (fun k e => more_at hz1 e) hs⟩
 have h0 := row_cell h.pg (j := 0) rfl
 have f0 := row_frozen h.pg 0
 have c5 := row_cell hpg1 (j := 5) rfl
 have c6 := row_cell hpg1 (j := 6) rfl
 have hlk := h.lk
 have hltg := row_lt h.pg
 clear h hd1 hpg1 hf1 hz1
 obtain ⟨lk, mb, tvg, ver, dk, cl⟩ := g
 dsimp only at hlk hdb
 subst hlk
 subst hdb
 dsimp only at hc
 subst hc
 generalize OpP w B gb _ m lo xs now R Q _ (DStep xs D i) = PP at *
 clear hi hM HW
 go_enter_defers Tryz.func28, Tryz.ntmps28
 go_wp2_with (first | (go_at_call 51; refine (lock_free Tryz.muLib ⟨gb, 0, none⟩ _ h0 f0).mono ?_; rintro e w1 ⟨rfl, hw1⟩; subst w1) | (go_at_call 62; refine HHW.out.mono ?_; rintro e w2 ⟨rfl, hw2⟩; subst w2) | (go_at_call 63; refine (Calls.mono HST.out) ?_; rintro e w3 ⟨rfl, k0, z0, HP⟩))
 refine leaves_cons (f := 52) (args := #[.pointer (some ⟨gb, 0, none⟩)]) (by simp) (by simp [go_sem]) ?_
 refine (unlock_deferred Tryz.muLib ⟨gb, 0, none⟩ .returning _ k0 z0).mono ?_
 rintro e u' w6 ⟨rfl, rfl, rfl⟩
 exact ⟨.int .i64 0, by simp [results, Tryz.results28, go_sem], rfl, HP.out⟩
def zeroS : List Value := [.int .i64 0, .int .i64 0, .bool false, .slice none 0 0]
open Go.RowKit Go.Shelf
def smN (x : Nod) : Prop := x.k.size <= 1000 /\ x.n.size <= 1000 /\ x.r.size <= 1000
def nodL (x : Nod) : List Value := [.string x.k, .string x.n, .string x.r]
def zeroN : List Value := [.string { data := #[] }, .string { data := #[] }, .string { data := #[] }]
theorem nodeClone_any (x : Nod) (hx : smN x) (w : World) : Calls Tryz.prog 109 #[.agg #[.string x.k, .string x.n, .string x.r]] w fun e w' => e = .returned (.agg #[.string x.k, .string x.n, .string x.r]) /\ Below w.heap.size w w' := by
 obtain ⟨h1, h2, h3⟩ := hx
 have hb0 : Below w.heap.size w ((w.alloc (.cells (nodL x).toArray 75)).alloc (.cells zeroN.toArray 75)) := by repeat (first | exact Below.refl _ _ | refine Below.setCell ?_ (by first | exact Nat.le_refl _ | (simp; done) | (simp; omega)) _ | refine below_drewN ?_ _ | refine Below.drew ?_ | refine Below.alloc ?_ (by first | exact Nat.le_refl _ | (simp; done) | (simp; omega)) _)
 have hq0 : ((w.alloc (.cells (nodL x).toArray 75)).alloc (.cells zeroN.toArray 75)).heap[w.heap.size]? = some (.cells (nodL x).toArray 75 (0, 0)) := alloc_row (alloc_new w (nodL x) _) _
 have hr0 : ((w.alloc (.cells (nodL x).toArray 75)).alloc (.cells zeroN.toArray 75)).heap[w.heap.size + 1]? = some (.cells zeroN.toArray 75 (0, 0)) := by
  have h1 := alloc_new (w.alloc (.cells (nodL x).toArray 75)) zeroN 75
  have e : (w.alloc (.cells (nodL x).toArray 75)).heap.size = w.heap.size + 1 := by show (w.heap.push _).size = _; simp
  rw [e] at h1
  exact h1
 obtain ⟨w0, hw0⟩ : ∃ w0, ((w.alloc (.cells (nodL x).toArray 75)).alloc (.cells zeroN.toArray 75)) = w0 := ⟨_, rfl⟩
 rw [hw0] at hb0 hq0 hr0
 have HC : Hid (∀ w1, Below w0.heap.size w0 w1 -> w1.cell? ⟨w.heap.size, 0, none⟩ = some (.string x.k) /\ w1.cell? ⟨w.heap.size, 1, none⟩ = some (.string x.n) /\ w1.cell? ⟨w.heap.size, 2, none⟩ = some (.string x.r) /\ w1.cell? ⟨w.heap.size + 1, 0, none⟩ = some (.string { data := #[] }) /\ w1.cell? ⟨w.heap.size + 1, 1, none⟩ = some (.string { data := #[] }) /\ w1.cell? ⟨w.heap.size + 1, 2, none⟩ = some (.string { data := #[] }) /\ w1.frozen? ⟨w.heap.size + 1, 0, none⟩ = false /\ w1.frozen? ⟨w.heap.size + 1, 1, none⟩ = false /\ w1.frozen? ⟨w.heap.size + 1, 2, none⟩ = false) := by
  intro w1 hb1
  have hq1 := (hb1.block _ (row_lt hq0)).trans hq0
  have hr1 := (hb1.block _ (row_lt hr0)).trans hr0
  exact ⟨row_cell hq1 (j := 0) rfl, row_cell hq1 (j := 1) rfl, row_cell hq1 (j := 2) rfl, row_cell hr1 (j := 0) rfl, row_cell hr1 (j := 1) rfl, row_cell hr1 (j := 2) rfl, row_frozen hr1 0, row_frozen hr1 1, row_frozen hr1 2⟩
 have HCL : Hid (∀ (s : ByteArray) (w1 : World), s.size <= 1000 -> Below w0.heap.size w0 w1 -> Calls Tryz.prog 102 #[.string s] w1 fun e w' => e = .returned (.string s) /\ Below w0.heap.size w0 w') := by
  intro s w1 hs hb1
  refine (stringsClone_any s w1 (by omega)).mono ?_
  rintro e w' ⟨he, hb⟩
  exact ⟨he, hb1.trans (hb.mono hb1.size)⟩
 have HK : Hid (∀ w1, Below w0.heap.size w0 w1 -> Calls Tryz.prog 102 #[.string x.k] w1 fun e w2 => e = .returned (.string x.k) /\ w2.cell? ⟨w.heap.size, 1, none⟩ = some (.string x.n) /\ w2.cell? ⟨w.heap.size, 2, none⟩ = some (.string x.r) /\ Hid (Calls Tryz.prog 102 #[.string x.n] w2 fun e w3 => e = .returned (.string x.n) /\ w3.cell? ⟨w.heap.size, 2, none⟩ = some (.string x.r) /\ Hid (Calls Tryz.prog 102 #[.string x.r] w3 fun e w4 => e = .returned (.string x.r) /\ w4.cell? ⟨w.heap.size + 1, 0, none⟩ = some (.string { data := #[] }) /\ w4.cell? ⟨w.heap.size + 1, 1, none⟩ = some (.string { data := #[] }) /\ w4.cell? ⟨w.heap.size + 1, 2, none⟩ = some (.string { data := #[] }) /\ w4.frozen? ⟨w.heap.size + 1, 0, none⟩ = false /\ w4.frozen? ⟨w.heap.size + 1, 1, none⟩ = false /\ w4.frozen? ⟨w.heap.size + 1, 2, none⟩ = false /\ Hid (Below w.heap.size w w4)))) := by
  intro w1 hb1
  refine (HCL.out x.k w1 h1 hb1).mono ?_
  rintro e w2 ⟨he2, hb2⟩
  obtain ⟨-, m1, m2, -⟩ := HC.out w2 hb2
  refine ⟨he2, m1, m2, ?_⟩
  refine (HCL.out x.n w2 h2 hb2).mono ?_
  rintro e w3 ⟨he3, hb3⟩
  obtain ⟨-, -, m2, -⟩ := HC.out w3 hb3
  refine ⟨he3, m2, ?_⟩
  refine (HCL.out x.r w3 h3 hb3).mono ?_
  rintro e w4 ⟨he4, hb4⟩
  obtain ⟨-, -, -, p0, p1, p2, z0, z1, z2⟩ := HC.out w4 hb4
  exact ⟨he4, p0, p1, p2, z0, z1, z2, hb0.trans (hb4.mono hb0.size)⟩
 obtain ⟨l0, l1, l2, -⟩ := HC.out w0 (Below.refl _ _)
 have hw1 : ((w.alloc (.cells #[.string x.k, .string x.n, .string x.r] 75)).alloc (.cells #[.string { data := #[] }, .string { data := #[] }, .string { data := #[] }] 75)) = w0 := hw0
 clear hw0 hb0 hq0 hr0 HC HCL
 generalize x.k = k at *
 generalize x.n = n at *
 generalize x.r = r at *
 go_enter Tryz.func109, Tryz.ntmps109
 go_wp2
 clear hw1
 go_region_with (first | (go_at_call 102; refine (HK.out _ (by repeat (first | exact Below.refl _ _ | refine Below.setCell ?_ (by first | exact Nat.le_refl _ | (simp; done) | (simp; omega)) _ | refine below_drewN ?_ _ | refine Below.drew ?_ | refine Below.alloc ?_ (by first | exact Nat.le_refl _ | (simp; done) | (simp; omega)) _))).mono ?_; rintro e w2 ⟨rfl, m1, m2, HN⟩; clear HK l0 l1 l2) | (go_at_call 102; refine (Calls.mono HN.out) ?_; rintro e w3 ⟨rfl, m3, HR⟩; clear HN m1 m2) | (go_at_call 102; refine (Calls.mono HR.out) ?_; rintro e w4 ⟨rfl, p0, p1, p2, z0, z1, z2, HB⟩; clear HR m3))
 all_goals go_wp2
 all_goals
  refine bodyPost_ret (v := .agg #[.string k, .string n, .string r]) (by simp [results, Tryz.results109, go_sem, p0, p1, p2]) rfl ⟨rfl, ?_⟩
  exact ((HB.out.setCell (by show w.heap.size <= w.heap.size + 1; omega) _).setCell (by show w.heap.size <= w.heap.size + 1; omega) _).setCell (by show w.heap.size <= w.heap.size + 1; omega) _
theorem gateRead2 {xs : List ByteArray} {b : Nat} {w : World} (s : ByteArray) (h : ∀ w1, Below w.heap.size w w1 -> Calls Tryz.prog 47 #[.pointer (some ⟨b, 0, none⟩), .agg #[.string (queX s).k, .string (queX s).n, .string (queX s).r]] w1 fun e w' => e = .returned (.bool (hasR xs (queX s))) /\ Below w1.heap.size w1 w') (hs : s.size <= maxLen) :
  Calls Tryz.prog 41 #[.pointer (some ⟨b, 0, none⟩), .string s] w fun e w' => e = .returned (.tuple #[askV xs s, .int .i64 (askE xs s)]) /\ Below w.heap.size w w' := by
 have hrq := fun w1 => readQuestion_any s w1 hs
 cases hok : queOk s
 ·rw [hok, queVal_no hok] at hrq
  have HV : Hid (askV xs s = zeroQ /\ askE xs s = 4) := by
   have e : askE xs s = 4 := if_pos hok
   refine ⟨?_, e⟩
   unfold askV; rw [e]; exact if_neg (by decide)
  obtain ⟨v1, v2⟩ := HV.out
  rw [v1, v2]
  unfold zeroQ
  clear h hs hok HV v1 v2
  go_enter Tryz.func41, Tryz.ntmps41
  go_wp2_with (go_at_call 45; refine (hrq _).mono ?_; rintro e w1 ⟨rfl, hb1⟩; have hz1 : w.heap.size < w1.heap.size := (by have := hb1.size; simp at this; omega); have hc0 := fun o => hb1.cell (p := ⟨w.heap.size, o, none⟩) (by simp); have hf0 := fun o => hb1.frozen (p := ⟨w.heap.size, o, none⟩) (by simp); have hn0 : ¬ w.heap.size = w1.heap.size := (by omega); have hn1 : ¬ w1.heap.size = w.heap.size := (by omega))
  have hB1 : Below w.heap.size w w1 := ((Below.refl w.heap.size w).alloc (Nat.le_refl _) _).trans (hb1.mono (by simp))
  refine bodyPost_ret (v := .tuple #[.agg #[.string noneB, .string noneB, .string noneB, .string noneB, .string noneB, .string noneB], .int .i64 4]) (by simp [results, Tryz.results41, go_sem, hc0, hz1, noneB]) rfl ⟨rfl, ?_⟩
  refine Below.alloc ?_ (by simp; omega) _
  refine Below.setCell ?_ (by simp) _
  refine Below.setCell ?_ (by simp) _
  refine Below.setCell ?_ (by simp) _
  refine Below.setCell ?_ (by simp) _
  refine Below.setCell ?_ (by simp) _
  refine Below.setCell ?_ (by simp) _
  exact hB1
 ·rw [hok, queVal_yes hok] at hrq
  have HRU : Hid (∀ w1, Below w.heap.size w w1 -> Calls Tryz.prog 47 #[.pointer (some ⟨b, 0, none⟩), .agg #[.string (queX s).k, .string (queX s).n, .string (queX s).r]] w1 fun e w' => e = .returned (.bool (hasR xs (queX s))) /\ Below w1.heap.size w1 w') := h
  cases hr : hasR xs (queX s)
  ·rw [hr] at HRU
   have HV : Hid (askV xs s = zeroQ /\ askE xs s = 5) := by
    have e : askE xs s = 5 := by unfold askE; rw [hok, hr]; rfl
    refine ⟨?_, e⟩
    unfold askV; rw [e]; exact if_neg (by decide)
   obtain ⟨v1, v2⟩ := HV.out
   rw [v1, v2]
   unfold zeroQ
   clear h
   generalize queX s = x at *
   generalize queY s = y at *
   clear hs hok HV v1 v2 hr
   go_enter Tryz.func41, Tryz.ntmps41
   go_wp2_with (first | (go_at_call 45; refine (hrq _).mono ?_; rintro e w1 ⟨rfl, hb1⟩; have hz1 : w.heap.size < w1.heap.size := (by have := hb1.size; simp at this; omega); have hn0 : ¬ w.heap.size = w1.heap.size := (by omega); have hn1 : ¬ w1.heap.size = w.heap.size := (by omega); have hB1 : Below w.heap.size w w1 := ((Below.refl w.heap.size w).alloc (Nat.le_refl _) _).trans (hb1.mono (by simp))) | (go_at_call 47; refine (HRU.out _ (hB1.alloc hB1.size _)).mono ?_; rintro e w2 ⟨rfl, hb2⟩; have hz2 : w.heap.size < w2.heap.size := (by have := hb2.size; simp at this; omega); have hb12 : Below (w.heap.size + 1) _ w2 := ((hb1.mono (by simp)).trans ((((Below.refl (w.heap.size + 1) w1).alloc (by omega) _).trans (hb2.mono (by simp; omega))))); have hc0 := fun o => hb12.cell (p := ⟨w.heap.size, o, none⟩) (by simp); have hf0 := fun o => hb12.frozen (p := ⟨w.heap.size, o, none⟩) (by simp)))
   have hB2 : Below w.heap.size w w2 := (hB1.alloc hB1.size _).trans (hb2.mono (by simp; omega))
   refine bodyPost_ret (v := .tuple #[.agg #[.string noneB, .string noneB, .string noneB, .string noneB, .string noneB, .string noneB], .int .i64 5]) (by simp [results, Tryz.results41, go_sem, hc0, noneB]) rfl ⟨rfl, ?_⟩
   refine Below.setCell ?_ (by simp) _
   refine Below.setCell ?_ (by simp) _
   refine Below.setCell ?_ (by simp) _
   refine Below.setCell ?_ (by simp) _
   refine Below.setCell ?_ (by simp) _
   refine Below.setCell ?_ (by simp) _
   exact hB2
  ·rw [hr] at HRU
   have HV : Hid (askV xs s = .agg #[.string (queX s).k, .string (queX s).n, .string (queX s).r, .string (queY s).k, .string (queY s).n, .string (queY s).r] /\ askE xs s = 0) := by
    have e : askE xs s = 0 := by unfold askE; rw [hok, hr]; rfl
    refine ⟨?_, e⟩
    unfold askV; rw [e]; exact if_pos rfl
   obtain ⟨v1, v2⟩ := HV.out
   rw [v1, v2]
   clear HV v1 v2 h
   generalize queX s = x at *
   generalize queY s = y at *
   clear hs hok hr
   go_enter Tryz.func41, Tryz.ntmps41
   go_wp2_with (first | (go_at_call 45; refine (hrq _).mono ?_; rintro e w1 ⟨rfl, hb1⟩; have hz1 : w.heap.size < w1.heap.size := (by have := hb1.size; simp at this; omega); have hn0 : ¬ w.heap.size = w1.heap.size := (by omega); have hn1 : ¬ w1.heap.size = w.heap.size := (by omega); have hB1 : Below w.heap.size w w1 := ((Below.refl w.heap.size w).alloc (Nat.le_refl _) _).trans (hb1.mono (by simp))) | (go_at_call 47; refine (HRU.out _ (hB1.alloc hB1.size _)).mono ?_; rintro e w2 ⟨rfl, hb2⟩; have hz2 : w.heap.size < w2.heap.size := (by have := hb2.size; simp at this; omega); have hb12 : Below (w.heap.size + 1) _ w2 := ((hb1.mono (by simp)).trans ((((Below.refl (w.heap.size + 1) w1).alloc (by omega) _).trans (hb2.mono (by simp; omega))))); have hc0 := fun o => hb12.cell (p := ⟨w.heap.size, o, none⟩) (by simp); have hf0 := fun o => hb12.frozen (p := ⟨w.heap.size, o, none⟩) (by simp); have hc1 := fun o => hb2.cell (p := ⟨w1.heap.size, o, none⟩) (by simp)))
   have hB2 : Below w.heap.size w w2 := (hB1.alloc hB1.size _).trans (hb2.mono (by simp; omega))
   refine bodyPost_ret (v := .tuple #[.agg #[.string x.k, .string x.n, .string x.r, .string y.k, .string y.n, .string y.r], .int .i64 0]) (by simp [results, Tryz.results41, go_sem, hc0]) rfl ⟨rfl, ?_⟩
   refine Below.setCell ?_ (by simp) _
   refine Below.setCell ?_ (by simp) _
   refine Below.setCell ?_ (by simp) _
   refine Below.setCell ?_ (by simp) _
   refine Below.setCell ?_ (by simp) _
   refine Below.setCell ?_ (by simp) _
   exact hB2
def zeroQ6 : List Value := [.string { data := #[] }, .string { data := #[] }, .string { data := #[] }, .string { data := #[] }, .string { data := #[] }, .string { data := #[] }]
theorem que_small {s : ByteArray} (h : queOk s = true) : smN (queX s) /\ smN (queY s) := by
 obtain ⟨k, n, r, hk, hn, hr, hx⟩ := que_parts s h
 have a1 := nameL_len hk
 have a2 := nameL_len hn
 have a3 := nameL_len hr
 have hX : queX s = ⟨mk k, mk n, mk r⟩ := by
  rcases hx with ht | ⟨k2, n2, hk2, hn2, ht⟩
  ·exact (que_no hk hn hr ht).2.2.1
  ·exact (que_yes hk hn hr hk2 hn2 ht).2.2.1
 refine ⟨?_, ?_⟩
 ·rw [hX]; exact ⟨by show (mk k).size <= _; rw [mk_size]; omega, by show (mk n).size <= _; rw [mk_size]; omega, by show (mk r).size <= _; rw [mk_size]; omega⟩
 ·rcases hx with ht | ⟨k2, n2, hk2, hn2, ht⟩
  ·have hs : queY s = ⟨noneB, noneB, noneB⟩ := (que_no hk hn hr ht).2.2.2
   rw [hs]; exact ⟨by show (0 : Nat) <= _; omega, by show (0 : Nat) <= _; omega, by show (0 : Nat) <= _; omega⟩
  ·have a4 := nameL_len hk2
   have a5 := nameL_len hn2
   have hs := (que_yes hk hn hr hk2 hn2 ht).2.2.2
   rw [hs]; exact ⟨by show (mk k2).size <= _; rw [mk_size]; omega, by show (mk n2).size <= _; rw [mk_size]; omega, by show (0 : Nat) <= _; omega⟩
theorem queClone_any (x y : Nod) (hx : smN x) (hy : smN y) (w : World) : Calls Tryz.prog 61 #[.agg #[.string x.k, .string x.n, .string x.r, .string y.k, .string y.n, .string y.r]] w fun e w' => e = .returned (.agg #[.string x.k, .string x.n, .string x.r, .string y.k, .string y.n, .string y.r]) /\ Below w.heap.size w w' := by
 have hb0 : Below w.heap.size w ((w.alloc (.cells (queL x y).toArray 77)).alloc (.cells zeroQ6.toArray 77)) := by repeat (first | exact Below.refl _ _ | refine Below.setCell ?_ (by first | exact Nat.le_refl _ | (simp; done) | (simp; omega)) _ | refine below_drewN ?_ _ | refine Below.drew ?_ | refine Below.alloc ?_ (by first | exact Nat.le_refl _ | (simp; done) | (simp; omega)) _)
 have hq0 : ((w.alloc (.cells (queL x y).toArray 77)).alloc (.cells zeroQ6.toArray 77)).heap[w.heap.size]? = some (.cells (queL x y).toArray 77 (0, 0)) := alloc_row (alloc_new w (queL x y) _) _
 have hr0 : ((w.alloc (.cells (queL x y).toArray 77)).alloc (.cells zeroQ6.toArray 77)).heap[w.heap.size + 1]? = some (.cells zeroQ6.toArray 77 (0, 0)) := by
  have h1 := alloc_new (w.alloc (.cells (queL x y).toArray 77)) zeroQ6 77
  have e : (w.alloc (.cells (queL x y).toArray 77)).heap.size = w.heap.size + 1 := by show (w.heap.push _).size = _; simp
  rw [e] at h1
  exact h1
 obtain ⟨w0, hw0⟩ : ∃ w0, ((w.alloc (.cells (queL x y).toArray 77)).alloc (.cells zeroQ6.toArray 77)) = w0 := ⟨_, rfl⟩
 rw [hw0] at hb0 hq0 hr0
 have HK : Hid (∀ w1, Below w0.heap.size w0 w1 -> Calls Tryz.prog 109 #[.agg #[.string x.k, .string x.n, .string x.r]] w1 fun e w2 => e = .returned (.agg #[.string x.k, .string x.n, .string x.r]) /\ w2.cell? ⟨w.heap.size, 3, none⟩ = some (.string y.k) /\ w2.cell? ⟨w.heap.size, 4, none⟩ = some (.string y.n) /\ w2.cell? ⟨w.heap.size, 5, none⟩ = some (.string y.r) /\ Hid (Calls Tryz.prog 109 #[.agg #[.string y.k, .string y.n, .string y.r]] w2 fun e w3 => e = .returned (.agg #[.string y.k, .string y.n, .string y.r]) /\ Hid (w3.heap[w.heap.size + 1]? = some (.cells zeroQ6.toArray 77 (0, 0))) /\ Hid (Below w.heap.size w w3))) := by
  intro w1 hb1
  refine (nodeClone_any x hx w1).mono ?_
  rintro e w2 ⟨he2, hb2⟩
  have hb02 : Below w0.heap.size w0 w2 := hb1.trans (hb2.mono hb1.size)
  have hq2 := (hb02.block _ (row_lt hq0)).trans hq0
  refine ⟨he2, row_cell hq2 (j := 3) rfl, row_cell hq2 (j := 4) rfl, row_cell hq2 (j := 5) rfl, ?_⟩
  refine (nodeClone_any y hy w2).mono ?_
  rintro e w3 ⟨he3, hb3⟩
  have hb03 : Below w0.heap.size w0 w3 := hb02.trans (hb3.mono hb02.size)
  exact ⟨he3, (hb03.block _ (row_lt hr0)).trans hr0, hb0.trans (hb03.mono hb0.size)⟩
 have l0 : w0.cell? ⟨w.heap.size, 0, none⟩ = some (.string x.k) := row_cell hq0 (j := 0) rfl
 have l1 : w0.cell? ⟨w.heap.size, 1, none⟩ = some (.string x.n) := row_cell hq0 (j := 1) rfl
 have l2 : w0.cell? ⟨w.heap.size, 2, none⟩ = some (.string x.r) := row_cell hq0 (j := 2) rfl
 have l3 : w0.cell? ⟨w.heap.size, 3, none⟩ = some (.string y.k) := row_cell hq0 (j := 3) rfl
 have l4 : w0.cell? ⟨w.heap.size, 4, none⟩ = some (.string y.n) := row_cell hq0 (j := 4) rfl
 have l5 : w0.cell? ⟨w.heap.size, 5, none⟩ = some (.string y.r) := row_cell hq0 (j := 5) rfl
 have hw1 : ((w.alloc (.cells #[.string x.k, .string x.n, .string x.r, .string y.k, .string y.n, .string y.r] 77)).alloc (.cells #[.string { data := #[] }, .string { data := #[] }, .string { data := #[] }, .string { data := #[] }, .string { data := #[] }, .string { data := #[] }] 77)) = w0 := hw0
 clear hw0 hb0 hq0 hr0 hx hy
 go_enter Tryz.func61, Tryz.ntmps61
 go_wp2
 clear hw1
 go_region_with (first | (go_at_call 109; refine (HK.out _ (by repeat (first | exact Below.refl _ _ | refine Below.setCell ?_ (by first | exact Nat.le_refl _ | (simp; done) | (simp; omega)) _ | refine below_drewN ?_ _ | refine Below.drew ?_ | refine Below.alloc ?_ (by first | exact Nat.le_refl _ | (simp; done) | (simp; omega)) _))).mono ?_; rintro e w2 ⟨rfl, m1, m2, m3, HN⟩; clear HK l0 l1 l2 l3 l4 l5) | (go_at_call 109; refine (Calls.mono HN.out) ?_; rintro e w3 ⟨rfl, HR, HB⟩; clear HN m1 m2 m3; have p0 := row_cell HR.out (j := 0) rfl; have p1 := row_cell HR.out (j := 1) rfl; have p2 := row_cell HR.out (j := 2) rfl; have p3 := row_cell HR.out (j := 3) rfl; have p4 := row_cell HR.out (j := 4) rfl; have p5 := row_cell HR.out (j := 5) rfl; have z0 := row_frozen HR.out 0; have z1 := row_frozen HR.out 1; have z2 := row_frozen HR.out 2; have z3 := row_frozen HR.out 3; have z4 := row_frozen HR.out 4; have z5 := row_frozen HR.out 5))
 all_goals go_wp2
 all_goals
  refine bodyPost_ret (v := .agg #[.string x.k, .string x.n, .string x.r, .string y.k, .string y.n, .string y.r]) (by simp [results, Tryz.results61, go_sem, p0, p1, p2, p3, p4, p5]) rfl ⟨rfl, ?_⟩
  exact (((((HB.out.setCell (by show w.heap.size <= w.heap.size + 1; omega) _).setCell (by show w.heap.size <= w.heap.size + 1; omega) _).setCell (by show w.heap.size <= w.heap.size + 1; omega) _).setCell (by show w.heap.size <= w.heap.size + 1; omega) _).setCell (by show w.heap.size <= w.heap.size + 1; omega) _).setCell (by show w.heap.size <= w.heap.size + 1; omega) _
theorem dkFull_any {xs : List ByteArray} {mr : Nat} {R : Nat -> Prop} {db : Nat} {Q : Nat -> Prop} {D : Dk} {tv : Value} {wb : Nat} {ls : List Rl} {w : World} (h : DkAt xs mr R db Q D tv wb ls w) :
  Calls Tryz.prog 58 #[.pointer (some ⟨db, 0, none⟩)] w fun e w' => e = .returned (.bool (fullD D)) /\ Below w.heap.size w w' := by
 have d0 := row_cell h.blk (j := 0) rfl
 have d2 := row_cell h.blk (j := 2) rfl
 obtain ⟨tx, tc, htv⟩ := owns_form h.row
 rw [htv, h.len] at d2
 have HWT : Hid (∀ w1, Below w.heap.size w w1 -> Calls Tryz.prog 107 #[.pointer (some ⟨db, 0, none⟩)] w1 fun e w' => e = .returned (.int .i64 (waitN D.rs : Nat)) /\ w' = w1) := fun w1 hb => dkWaiting_any (h.below hb)
 unfold fullD
 generalize waitN D.rs = wn at *
 have h30 := h.ok.rl
 generalize D.rs.length = N at *
 generalize D.qu = qu at *
 clear h htv
 by_cases hN : 30 <= N
 ·have hq : decide ((30 : Int) <= (N : Nat)) = true := decide_eq_true (by omega)
  have e1 : decide (30 <= N) = true := decide_eq_true hN
  rw [e1, Bool.true_or]
  clear e1
  go_enter Tryz.func58, Tryz.ntmps58
  go_wp2
  go_region
  all_goals go_wp2
  all_goals go_ret
  all_goals exact ⟨rfl, by repeat (first | exact Below.refl _ _ | refine Below.setCell ?_ (by first | exact Nat.le_refl _ | (simp; done) | (simp; omega)) _ | refine below_drewN ?_ _ | refine Below.drew ?_ | refine Below.alloc ?_ (by first | exact Nat.le_refl _ | (simp; done) | (simp; omega)) _)⟩
 ·have hq : decide ((30 : Int) <= (N : Nat)) = false := decide_eq_false (by omega)
  have e1 : decide (30 <= N) = false := decide_eq_false hN
  rw [e1, Bool.false_or]
  clear e1
  go_enter Tryz.func58, Tryz.ntmps58
  go_wp2
  go_region_with (go_at_call 107; refine (HWT.out _ (by repeat (first | exact Below.refl _ _ | refine Below.setCell ?_ (by first | exact Nat.le_refl _ | (simp; done) | (simp; omega)) _ | refine below_drewN ?_ _ | refine Below.drew ?_ | refine Below.alloc ?_ (by first | exact Nat.le_refl _ | (simp; done) | (simp; omega)) _))).mono ?_; rintro e w1 ⟨rfl, hw1⟩; subst w1)
  all_goals go_wp2
  all_goals go_ret
  all_goals exact ⟨rfl, by repeat (first | exact Below.refl _ _ | refine Below.setCell ?_ (by first | exact Nat.le_refl _ | (simp; done) | (simp; omega)) _ | refine below_drewN ?_ _ | refine Below.drew ?_ | refine Below.alloc ?_ (by first | exact Nat.le_refl _ | (simp; done) | (simp; omega)) _)⟩
end Go.Proofs.YtalmoiogbdahcaaGreat
