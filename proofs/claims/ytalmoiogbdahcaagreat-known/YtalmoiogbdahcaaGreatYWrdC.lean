import Derived.Test.YtalmoiogbdahcaaGreatYWrdB
import Derived.Lib.OthersKept
namespace Go.Proofs.YtalmoiogbdahcaaGreat
set_option maxRecDepth 100000
set_option maxHeartbeats 8000000
open Go.RowKit Go.Lib
def nl : Nat -> List UInt8 -> Option Nat
 | _, [] => some 0
 | 0, c :: l => if sizeL (c :: l) = 0 \/ badHead c.toNat = true then some 0 else none
 | r + 1, c :: l => if sizeL (c :: l) = 0 \/ badHead c.toNat = true then some 0 else (nl r ((c :: l).drop (sizeL (c :: l)))).map (· + sizeL (c :: l))
def nameOf (s : ByteArray) : ByteArray := match nl 8 s.data.toList with | some (n + 1) => s.extract 0 (n + 1) | _ => { data := #[] }
def Rd.name (q : Rd) : Rd := match nl 8 q.rest.data.toList with | some (n + 1) => { q with rest := q.rest.extract (n + 1) q.rest.size } | _ => q.fail
theorem nl_nil (r : Nat) : nl r [] = some 0 := by cases r <;> rfl
theorem nl_bad (r : Nat) (c : UInt8) (l : List UInt8) (h : sizeL (c :: l) = 0 \/ badHead c.toNat = true) : nl r (c :: l) = some 0 := by
 cases r <;> rw [nl, if_pos h]
theorem nl_zero (c : UInt8) (l : List UInt8) (h : ¬ (sizeL (c :: l) = 0 \/ badHead c.toNat = true)) : nl 0 (c :: l) = none := by rw [nl, if_neg h]
theorem nl_succ (r : Nat) (c : UInt8) (l : List UInt8) (h : ¬ (sizeL (c :: l) = 0 \/ badHead c.toNat = true)) : nl (r + 1) (c :: l) = (nl r ((c :: l).drop (sizeL (c :: l)))).map (· + sizeL (c :: l)) := by rw [nl, if_neg h]
theorem ret_str {a b : ByteArray} (h : a = b) : Ending.returned (.string a) = .returned (.string b) := by rw [h]
theorem rd_below {B r : Nat} {q : Rd} {w w' : World} (h : RdAt w r q) (hb : Below B w w') (hr : r < B) : RdAt w' r q := by
 unfold RdAt at h ⊢; rw [hb.block r hr]; exact h
theorem kept_below {r : Nat} {w w' : World} (hb : Below w.heap.size w w') : w.grownBy w' (some r) :=
 ⟨hb.os, hb.tape, hb.output, hb.size, fun k hk _ => hb.block k hk⟩
theorem good_false {s : ByteArray} {p : Nat} (h : p < s.size) (hg : goodAt s p = false) : sizeL (s[p]'h :: s.data.toList.drop (p + 1)) = 0 \/ badHead (s[p]'h).toNat = true := by
 have hby : (s.data.toList.getD p 0).toNat = (s[p]'h).toNat := by
  rw [List.getD_eq_getElem?_getD, List.getElem?_eq_getElem (by simpa using h)]; rfl
 unfold goodAt at hg
 rw [hby, drop_cons s p h] at hg
 by_cases h0 : sizeL (s[p]'h :: s.data.toList.drop (p + 1)) = 0
 ·exact Or.inl h0
 ·right; simpa [h0] using hg
theorem good_true {s : ByteArray} {p : Nat} (h : p < s.size) (hg : goodAt s p = true) : ¬ (sizeL (s[p]'h :: s.data.toList.drop (p + 1)) = 0 \/ badHead (s[p]'h).toNat = true) := by
 have hby : (s.data.toList.getD p 0).toNat = (s[p]'h).toNat := by
  rw [List.getD_eq_getElem?_getD, List.getElem?_eq_getElem (by simpa using h)]; rfl
 unfold goodAt at hg
 rw [hby, drop_cons s p h] at hg
 simp at hg
 rintro (h0 | h0)
 ·exact hg.1 h0
 ·rw [hg.2] at h0; cases h0
theorem nameRd_any (r : Nat) (q : Rd) (w : World) (hRd : RdAt w r q) (hs : q.rest.size <= maxLen) :
  Calls Tryz.prog 141 #[.pointer (some ⟨r, 0, none⟩)] w fun e w' => e = .returned (.string (nameOf q.rest)) /\ RdAt w' r q.name /\ w.grownBy w' (some r) := by
 have hrw : r < w.heap.size := row_lt hRd
 obtain ⟨h0, -, -, -, -, -⟩ := rd_cells hRd
 unfold maxLen at hs
 have HQ : Hid (RdAt w r q) := hRd
 clear hRd
 obtain ⟨s, opn, fld⟩ := q
 dsimp only at h0 hs ⊢
 go_enter Tryz.func141, Tryz.ntmps141
 go_wp2
 go_loopw [3, 4, 5, 6] (fun e n _ _ wr => ∃ p k : Nat, e = .int .i64 s.size /\ n = .int .i64 k /\ k <= 8 /\ p <= s.size /\ wr.heap[w.heap.size]? = some (.stringIter s p) /\ Below w.heap.size w wr /\ nl 8 s.data.toList = (nl (8 - k) (s.data.toList.drop p)).map (· + p) /\ (k = 0 ↔ p = 0)) (fun _ _ _ _ wr => s.size - wr.iterPos w.heap.size)
 case atStart => exact ⟨0, 0, rfl, rfl, by omega, by omega, World.iter_heap _ _ _, (Below.refl _ _).alloc (Nat.le_refl _) _, by simp, by simp⟩
 case round =>
  obtain ⟨p, k, rfl, rfl, hk, hp, hit, hb, hnl, hkp⟩ := hrel
  have HN : Hid (nl 8 s.data.toList = (nl (8 - k) (s.data.toList.drop p)).map (· + p)) := hnl
  have HB : Hid (Below w.heap.size w wr) := hb
  have HI : Hid (wr.heap[w.heap.size]? = some (.stringIter s p)) := hit
  have HK : Hid (k = 0 ↔ p = 0) := hkp
  have hc0 : wr.cell? ⟨r, 0, none⟩ = some (.string s) := by rw [← h0]; exact hb.cell hrw
  clear hnl hkp hb hit
  by_cases hlt : p < s.size
  ·have hn := run_next_any_at (P := Tryz.prog) wr w.heap.size s p 0 HI.out hlt
   have hgi := good_iff s p hlt
   have hds := decode_spec s p hlt
   have hcv : ((Utf8.decode s p).1 : Int) <= 1114111 /\ (((Utf8.decode s p).1 : Int) < 55296 \/ 57343 < ((Utf8.decode s p).1 : Int)) := by
    rcases hds with ⟨-, hd, -⟩ | ⟨-, -, hv, -⟩
    ·rw [hd]; decide
    ·simp [Utf8.valid] at hv; omega
   have hin := fun w => inName_any ((Utf8.decode s p).1 : Int) w (by omega) hcv.1 hcv.2
   have hbr := fun w => broken_any ((Utf8.decode s p).1 : Int) (s.extract p s.size) w
   obtain ⟨w2, hw2⟩ : ∃ w2, wr.iterAt w.heap.size s (p + (Utf8.decode s p).2) = w2 := ⟨_, rfl⟩
   have HI2 : Hid (w2.heap[w.heap.size]? = some (.stringIter s (p + (Utf8.decode s p).2))) := by show _ = _; rw [← hw2]; exact iterAt_heap _ _ _ _ _ HI.out
   have HB2 : Hid (Below w.heap.size w w2) := by show Below _ _ _; rw [← hw2]; exact below_iterAt HB.out (Nat.le_refl _) _ _
   have hsz2 : w.heap.size < w2.heap.size := row_lt HI2.out
   rw [hw2] at hn
   clear hw2 hcv
   have HD : Hid ((sizeL (s.data.toList.drop p) = 0 /\ Utf8.decode s p = (65533, 1) /\ 128 <= (s[p]'hlt).toNat) \/ (sizeL (s.data.toList.drop p) = (Utf8.decode s p).2 /\ 1 <= (Utf8.decode s p).2 /\ Utf8.valid (Utf8.decode s p).1 = true /\ (((s[p]'hlt).toNat < 128 /\ (Utf8.decode s p).1 = (s[p]'hlt).toNat) \/ (128 <= (s[p]'hlt).toNat /\ 128 <= (Utf8.decode s p).1)))) := hds
   clear hds
   generalize ((Utf8.decode s p).1 : Int) = c at *
   generalize (Utf8.decode s p).2 = kk at *
   have HG : Hid ((inNameB c && !brokenB c (s.extract p s.size)) = goodAt s p) := hgi
   clear hgi
   generalize inNameB c = bi at *
   generalize brokenB c (s.extract p s.size) = bb at *
   have hlen := HB2.out.size
   have hc2 : w2.cell? ⟨r, 0, none⟩ = some (.string s) := by rw [← h0]; exact HB2.out.cell hrw
   cases hgd : goodAt s p
   ·have HL : Hid (nl 8 s.data.toList = some p) := by
     show _ = _
     rw [HN.out, drop_cons s p hlt, nl_bad _ _ _ (good_false hlt hgd)]; simp
    have hbad : bi = false \/ (bi = true /\ bb = true) := by
     have := HG.out; rw [hgd] at this
     cases bi <;> cases bb <;> simp at this ⊢
    clear hgd
    rcases hbad with rfl | ⟨rfl, rfl⟩
    all_goals
     by_cases hk0 : k = 0
     ·subst hk0
      have hp0 : p = 0 := HK.out.1 rfl
      subst hp0
      rw [show s.extract 0 s.size = s by simp] at hbr
      have HF : Hid (nameOf s = { data := #[] } /\ (Rd.mk s opn fld).name = (Rd.mk s opn fld).fail) := by
       have h8 := HL.out
       constructor
       ·unfold nameOf; rw [h8]
       ·unfold Rd.name; dsimp only; rw [h8]
      go_wp2_with (first | (go_at_call 160; have hRq := rd_below (rd_below HQ.out HB2.out hrw) hb3 (by omega); refine (fail_any r _ _ hRq).mono ?_; rintro e wf ⟨rfl, hrf, hkf⟩) | (go_at_call 183; refine (hin _).mono ?_; rintro e w3 ⟨rfl, hb3⟩; have hc3 := (hb3.cell (p := ⟨r, 0, none⟩) (by show r < _; omega)).trans hc2) | (go_at_call 184; refine (hbr _).mono ?_; rintro e w4 ⟨rfl, rfl⟩))
      go_ret
      exact ⟨ret_str HF.out.1.symm, by rw [HF.out.2]; exact hrf, kept_trans (kept_below (HB2.out.trans (hb3.mono hlen))) hkf⟩
     ·have hkb : ((k : Int) == 0) = false := by simp; omega
      have hp0 : 0 < p := by have := HK.out; omega
      have HF : Hid (nameOf s = s.extract 0 p /\ (Rd.mk s opn fld).name = Rd.mk (s.extract p s.size) opn fld) := by
       obtain ⟨m, rfl⟩ : ∃ m, p = m + 1 := ⟨p - 1, by omega⟩
       have h8 := HL.out
       constructor
       ·unfold nameOf; rw [h8]
       ·unfold Rd.name; dsimp only; rw [h8]
      have hfz2 := (rd_cells (rd_below HQ.out HB2.out hrw)).2.2.2.1
      go_wp2_with (first | (go_at_call 183; refine (hin _).mono ?_; rintro e w3 ⟨rfl, hb3⟩; have hc3 := (hb3.cell (p := ⟨r, 0, none⟩) (by show r < _; omega)).trans hc2; have hfz3 := (hb3.frozen (p := ⟨r, 0, none⟩) (by show r < _; omega)).trans hfz2) | (go_at_call 184; refine (hbr _).mono ?_; rintro e w4 ⟨rfl, rfl⟩))
      go_ret
      refine ⟨ret_str HF.out.1.symm, ?_, kept_set (kept_below (HB2.out.trans (hb3.mono hlen))) _ _⟩
      rw [HF.out.2]
      exact rd_rest (rd_below (rd_below HQ.out HB2.out hrw) hb3 (by omega)) _
   ·have hgood : bi = true /\ bb = false := by
     have := HG.out; rw [hgd] at this
     cases bi <;> cases bb <;> simp at this ⊢
    obtain ⟨rfl, rfl⟩ := hgood
    have hgt := good_true hlt hgd
    have hkk : sizeL (s[p]'hlt :: s.data.toList.drop (p + 1)) = kk /\ 1 <= kk := by
     rw [← drop_cons s p hlt] at hgt ⊢
     rcases HD.out with ⟨q, -, -⟩ | ⟨q1, q2, -⟩
     ·exact absurd (Or.inl q) hgt
     ·exact ⟨q1, q2⟩
    have hpk : p + kk <= s.size := by
     have := sizeL_le (s[p]'hlt :: s.data.toList.drop (p + 1))
     rw [hkk.1, ← drop_cons s p hlt, List.length_drop] at this
     simp at this; omega
    clear hgd
    by_cases hk8 : k = 8
    ·subst hk8
     have HF : Hid (nameOf s = { data := #[] } /\ (Rd.mk s opn fld).name = (Rd.mk s opn fld).fail) := by
      have h8 : nl 8 s.data.toList = none := by
       rw [HN.out, drop_cons s p hlt]
       show (nl 0 _).map _ = none
       rw [nl_zero _ _ hgt]; rfl
      constructor
      ·unfold nameOf; rw [h8]
      ·unfold Rd.name; dsimp only; rw [h8]
     clear hgt hkk hpk
     go_wp2_with (first | (go_at_call 160; have hRq := rd_below (rd_below HQ.out HB2.out hrw) hb3 (by omega); refine (fail_any r _ _ hRq).mono ?_; rintro e wf ⟨rfl, hrf, hkf⟩) | (go_at_call 183; refine (hin _).mono ?_; rintro e w3 ⟨rfl, hb3⟩; have hc3 := (hb3.cell (p := ⟨r, 0, none⟩) (by show r < _; omega)).trans hc2) | (go_at_call 184; refine (hbr _).mono ?_; rintro e w4 ⟨rfl, rfl⟩))
     go_ret
     exact ⟨ret_str HF.out.1.symm, by rw [HF.out.2]; exact hrf, kept_trans (kept_below (HB2.out.trans (hb3.mono hlen))) hkf⟩
    ·have HF : Hid (nl 8 s.data.toList = (nl (8 - (k + 1)) (s.data.toList.drop (p + kk))).map (· + (p + kk))) := by
      show _ = _
      rw [HN.out, show 8 - k = (8 - (k + 1)) + 1 by omega, drop_cons s p hlt, nl_succ _ _ _ hgt, hkk.1, ← drop_cons s p hlt, List.drop_drop, Option.map_map]
      congr 1
      funext x; simp; omega
     have HP : Hid (1 <= kk /\ p + kk <= s.size) := ⟨hkk.2, hpk⟩
     clear hgt hkk hpk
     go_wp2_with (first | (go_at_call 183; refine (hin _).mono ?_; rintro e w3 ⟨rfl, hb3⟩; have hc3 := (hb3.cell (p := ⟨r, 0, none⟩) (by show r < _; omega)).trans hc2) | (go_at_call 184; refine (hbr _).mono ?_; rintro e w4 ⟨rfl, rfl⟩))
     go_roundw
     case rel =>
      have hh := HP.out
      have hi3 : w4.heap[w.heap.size]? = some (.stringIter s (p + kk)) := by rw [hb3.block _ hsz2]; exact HI2.out
      exact ⟨p + kk, k + 1, rfl, by go_num, by omega, hh.2, hi3, HB2.out.trans (hb3.mono hlen), HF.out, by omega⟩
     case measure =>
      have hh := HP.out
      have hi3 : w4.heap[w.heap.size]? = some (.stringIter s (p + kk)) := by rw [hb3.block _ hsz2]; exact HI2.out
      have e1 : w4.iterPos w.heap.size = p + kk := by unfold World.iterPos; rw [hi3]
      have e2 : wr.iterPos w.heap.size = p := by unfold World.iterPos; rw [HI.out]
      rw [e1, e2]; omega
  ·obtain rfl : p = s.size := by omega
   have hn := run_next_end_at (P := Tryz.prog) wr w.heap.size s s.size 0 HI.out hlt
   have HL : Hid (nl 8 s.data.toList = some s.size) := by
    show _ = _
    rw [HN.out, List.drop_eq_nil_of_le (by simp), nl_nil]; simp
   have hRq := rd_below HQ.out HB.out hrw
   by_cases hk0 : k = 0
   ·subst hk0
    have hs0 : s.size = 0 := HK.out.1 rfl
    have HF : Hid (nameOf s = { data := #[] } /\ (Rd.mk s opn fld).name = (Rd.mk s opn fld).fail) := by
     have h8 := HL.out
     rw [hs0] at h8
     constructor
     ·unfold nameOf; rw [h8]
     ·unfold Rd.name; dsimp only; rw [h8]
    clear hs0
    go_wp2_with (go_at_call 160; refine (fail_any r _ _ hRq).mono ?_; rintro e wf ⟨rfl, hrf, hkf⟩)
    go_ret
    exact ⟨ret_str HF.out.1.symm, by rw [HF.out.2]; exact hrf, kept_trans (kept_below HB.out) hkf⟩
   ·have hkb : ((k : Int) == 0) = false := by simp; omega
    have hs0 : 0 < s.size := by have := HK.out; omega
    have HF : Hid (nameOf s = s /\ (Rd.mk s opn fld).name = Rd.mk ByteArray.empty opn fld) := by
     obtain ⟨m, hm⟩ : ∃ m, s.size = m + 1 := ⟨s.size - 1, by omega⟩
     have h8 := HL.out
     rw [hm] at h8
     constructor
     ·unfold nameOf; rw [h8]; dsimp only; rw [← hm]; simp
     ·unfold Rd.name; dsimp only; rw [h8]; dsimp only; rw [← hm]; simp
    obtain ⟨-, -, -, hfz, -, -⟩ := rd_cells hRq
    go_wp2
    go_ret
    refine ⟨ret_str HF.out.1.symm, ?_, kept_set (kept_below HB.out) _ _⟩
    rw [HF.out.2]
    exact rd_rest hRq _
open Go.RowKit
theorem kcell {W w1 : World} {r : Nat} (h : W.grownBy w1 (some r)) : (∀ b o, b < W.heap.size -> ¬ b = r -> w1.cell? ⟨b, o, none⟩ = W.cell? ⟨b, o, none⟩) /\ (∀ b o, b < W.heap.size -> ¬ b = r -> w1.frozen? ⟨b, o, none⟩ = W.frozen? ⟨b, o, none⟩) :=
 ⟨fun b o hb hn => World.cell?_of_block (h.block b hb (by simpa using hn)), fun b o hb hn => World.frozen?_of_block (h.block b hb (by simpa using hn))⟩
theorem rd_alloc {w : World} {r : Nat} {q : Rd} (h : RdAt w r q) (o : Obj) : RdAt (w.alloc o) r q := by
 unfold RdAt at h ⊢; rw [Below.heap_alloc _ _ _ (row_lt h)]; exact h
theorem kept_alloc {w : World} (o : Obj) (row : Option Nat) : w.grownBy (w.alloc o) row := ⟨rfl, rfl, rfl, by simp, fun k hk _ => Below.heap_alloc _ _ _ hk⟩
theorem kept_new {w wr : World} {row : Option Nat} (h : w.grownBy wr row) {b : Nat} (hb : w.heap.size <= b) (j : Nat) (u : Value) : w.grownBy (wr.setCell ⟨b, j, none⟩ u) row :=
 ⟨h.os, h.tape, h.output, by simpa [World.setCell] using h.size, fun k hk hne => by
  rw [Below.heap_setCell _ _ _ _ (by show k ≠ b; omega)]; exact h.block k hk hne⟩
theorem rd_new {w : World} {r b : Nat} {q : Rd} (h : RdAt w r q) (hb : ¬ r = b) (j : Nat) (u : Value) : RdAt (w.setCell ⟨b, j, none⟩ u) r q := by
 unfold RdAt at h ⊢; rw [Below.heap_setCell _ _ _ _ hb]; exact h
theorem fail_size (q : Rd) : q.fail.rest.size <= q.rest.size := Nat.zero_le _
theorem sees_size (q : Rd) (m : ByteArray) : (q.sees m).rest.size <= q.rest.size := by
 unfold Rd.sees; split
 ·simp
 ·exact Nat.le_refl _
theorem must_size (q : Rd) (m : ByteArray) : (q.must m).rest.size <= q.rest.size := by
 unfold Rd.must; split
 ·exact sees_size q m
 ·exact fail_size q
theorem name_size (q : Rd) : q.name.rest.size <= q.rest.size := by
 unfold Rd.name; split
 ·simp
 ·exact fail_size q
structure Nd where
 kind : ByteArray
 name : ByteArray
 rel : ByteArray
def Nd.val (n : Nd) : Value := .agg #[.string n.kind, .string n.name, .string n.rel]
def Rd.thing (q : Rd) : Rd := ((q.name).must { data := #[58] }).name
def thingOf (q : Rd) : Nd := ⟨nameOf q.rest, nameOf (q.name.must { data := #[58] }).rest, { data := #[] }⟩
def Rd.node (q : Rd) : Rd := ((q.thing).must { data := #[35] }).name
def nodeOf (q : Rd) : Nd := { thingOf q with rel := nameOf (q.thing.must { data := #[35] }).rest }
def Rd.subject (q : Rd) : Rd := if preB q.thing.rest { data := #[35] } then (q.thing.sees { data := #[35] }).name else q.thing
def subjectOf (q : Rd) : Nd := if preB q.thing.rest { data := #[35] } then { thingOf q with rel := nameOf (q.thing.sees { data := #[35] }).rest } else thingOf q
theorem thing_size (q : Rd) : q.thing.rest.size <= q.rest.size := Nat.le_trans (name_size _) (Nat.le_trans (must_size _ _) (name_size _))
theorem node_size (q : Rd) : q.node.rest.size <= q.rest.size := Nat.le_trans (name_size _) (Nat.le_trans (must_size _ _) (thing_size _))
theorem thingRd_any (r : Nat) (q : Rd) (w : World) (hRd : RdAt w r q) (hs : q.rest.size <= maxLen) :
  Calls Tryz.prog 90 #[.pointer (some ⟨r, 0, none⟩)] w fun e w' => e = .returned (thingOf q).val /\ RdAt w' r q.thing /\ w.grownBy w' (some r) := by
 have hrw : r < w.heap.size := row_lt hRd
 have hne : ¬ w.heap.size = r := by omega
 have s1 := name_size q
 have s2 := must_size q.name { data := #[58] }
 have S2 : Hid ((q.name.must { data := #[58] }).rest.size <= maxLen) := by show _ <= _; omega
 clear s1 s2
 go_enter Tryz.func90, Tryz.ntmps90
 go_wp2_with (first | (go_at_call 141; refine (nameRd_any r q _ (rd_alloc hRd _) hs).mono ?_; clear hs; rintro e w1 ⟨rfl, hr1, hk1⟩) | (go_at_call 105; refine (must_any r q.name { data := #[58] } _ hr1).mono ?_; rintro e w2 ⟨rfl, hr2, hk2⟩) | (go_at_call 141; refine (nameRd_any r _ _ hr2 S2.out).mono ?_; rintro e w3 ⟨rfl, hr3, hk3⟩; have hkk := kept_trans (kept_trans hk1 hk2) hk3; have hcc := fun o => (kcell hkk).1 w.heap.size o (by simp) hne; have hff := fun o => (kcell hkk).2 w.heap.size o (by simp) hne))
 refine bodyPost_ret (v := (thingOf q).val) (by simp [results, Tryz.results90, go_sem, Nd.val, thingOf, hcc]) rfl ⟨rfl, ?_, ?_⟩
 ·exact rd_new (rd_new (rd_new hr3 (Ne.symm hne) _ _) (Ne.symm hne) _ _) (Ne.symm hne) _ _
 ·exact kept_new (kept_new (kept_new (kept_trans (kept_alloc _ _) hkk) (Nat.le_refl _) _ _) (Nat.le_refl _) _ _) (Nat.le_refl _) _ _
theorem agg_nd (q : Rd) : (thingOf q).val = .agg #[.string (thingOf q).kind, .string (thingOf q).name, .string (thingOf q).rel] := rfl
theorem nodeRd_any (r : Nat) (q : Rd) (w : World) (hRd : RdAt w r q) (hs : q.rest.size <= maxLen) :
  Calls Tryz.prog 88 #[.pointer (some ⟨r, 0, none⟩)] w fun e w' => e = .returned (nodeOf q).val /\ RdAt w' r q.node /\ w.grownBy w' (some r) := by
 have hrw : r < w.heap.size := row_lt hRd
 have hne : ¬ w.heap.size = r := by omega
 have s1 := thing_size q
 have s2 := must_size q.thing { data := #[35] }
 have S2 : Hid ((q.thing.must { data := #[35] }).rest.size <= maxLen) := by show _ <= _; omega
 have HT : Hid ((nodeOf q) = ⟨(thingOf q).kind, (thingOf q).name, nameOf (q.thing.must { data := #[35] }).rest⟩) := rfl
 have hth := fun w h => thingRd_any r q w h hs
 rw [agg_nd] at hth
 generalize (thingOf q).kind = tk at *
 generalize (thingOf q).name = tn at *
 generalize (thingOf q).rel = tr at *
 clear s1 s2 hs
 go_enter Tryz.func88, Tryz.ntmps88
 go_wp2_with (first | (go_at_call 90; refine (hth _ (rd_alloc hRd _)).mono ?_; clear hth; rintro e w1 ⟨rfl, hr1, hk1⟩; have hz1 : w.heap.size < w1.heap.size := (by have := hk1.size; simp at this; omega); have hn1 : ¬ w1.heap.size = r := (by omega); have hn2 : ¬ w1.heap.size = w.heap.size := (by omega); have hn3 : ¬ w.heap.size = w1.heap.size := (by omega)) | (go_at_call 105; refine (must_any r q.thing { data := #[35] } _ (rd_alloc hr1 _)).mono ?_; rintro e w2 ⟨rfl, hr2, hk2⟩) | (go_at_call 141; refine (nameRd_any r _ _ hr2 S2.out).mono ?_; rintro e w3 ⟨rfl, hr3, hk3⟩; have hkk := kept_trans hk2 hk3; have hc1 := fun o => (kcell hkk).1 w1.heap.size o (by simp) hn1; have hf1 := fun o => (kcell hkk).2 w1.heap.size o (by simp) hn1; have hka := kept_trans (kept_trans hk1 (kept_alloc _ _)) hkk; have hc0 := fun o => (kcell hka).1 w.heap.size o (by simp) hne; have hf0 := fun o => (kcell hka).2 w.heap.size o (by simp) hne))
 refine bodyPost_ret (v := (nodeOf q).val) (by rw [HT.out]; simp [results, Tryz.results88, go_sem, Nd.val, hc0]) rfl ⟨rfl, ?_, ?_⟩
 ·have hx := Ne.symm hne
  have hy := Ne.symm hn1
  exact rd_new (rd_new (rd_new (rd_new hr3 hy _ _) hx _ _) hx _ _) hx _ _
 ·exact kept_new (kept_new (kept_new (kept_new (kept_trans (kept_alloc _ _) hka) (by omega) _ _) (Nat.le_refl _) _ _) (Nat.le_refl _) _ _) (Nat.le_refl _) _ _
theorem subjectRd_any (r : Nat) (q : Rd) (w : World) (hRd : RdAt w r q) (hs : q.rest.size <= maxLen) :
  Calls Tryz.prog 153 #[.pointer (some ⟨r, 0, none⟩)] w fun e w' => e = .returned (subjectOf q).val /\ RdAt w' r q.subject /\ w.grownBy w' (some r) := by
 have hrw : r < w.heap.size := row_lt hRd
 have hne : ¬ w.heap.size = r := by omega
 have s1 := thing_size q
 have s2 := sees_size q.thing { data := #[35] }
 have S2 : Hid ((q.thing.sees { data := #[35] }).rest.size <= maxLen) := by show _ <= _; omega
 have hth := fun w h => thingRd_any r q w h hs
 have hsee := fun w h => sees_any r q.thing { data := #[35] } w h
 clear s1 s2 hs
 cases hp : preB q.thing.rest { data := #[35] }
 ·have HT : Hid (subjectOf q = thingOf q /\ q.subject = q.thing) := by
   unfold subjectOf Rd.subject; rw [hp]; exact ⟨rfl, rfl⟩
  have HQ : Hid (q.thing.sees { data := #[35] } = q.thing) := by
   show _ = _
   unfold Rd.sees; rw [hp]; rfl
  rw [hp] at hsee
  rw [agg_nd] at hth
  have HV : Hid ((thingOf q).val = .agg #[.string (thingOf q).kind, .string (thingOf q).name, .string (thingOf q).rel]) := rfl
  generalize (thingOf q).kind = tk at *
  generalize (thingOf q).name = tn at *
  generalize (thingOf q).rel = tr at *
  go_enter Tryz.func153, Tryz.ntmps153
  go_wp2_with (first | (go_at_call 90; refine (hth _ (rd_alloc hRd _)).mono ?_; clear hth; rintro e w1 ⟨rfl, hr1, hk1⟩; have hz1 : w.heap.size < w1.heap.size := (by have := hk1.size; simp at this; omega); have hn1 : ¬ w1.heap.size = r := (by omega); have hn2 : ¬ w1.heap.size = w.heap.size := (by omega); have hn3 : ¬ w.heap.size = w1.heap.size := (by omega)) | (go_at_call 89; refine (hsee _ (rd_alloc hr1 _)).mono ?_; rintro e w2 ⟨rfl, hr2, hk2⟩; have hkk := hk2; have hc1 := fun o => (kcell hkk).1 w1.heap.size o (by simp) hn1; have hf1 := fun o => (kcell hkk).2 w1.heap.size o (by simp) hn1; have hka := kept_trans (kept_trans hk1 (kept_alloc _ _)) hkk; have hc0 := fun o => (kcell hka).1 w.heap.size o (by simp) hne; have hf0 := fun o => (kcell hka).2 w.heap.size o (by simp) hne))
  refine bodyPost_ret (v := (subjectOf q).val) (by rw [HT.out.1, HV.out]; simp [results, Tryz.results153, go_sem, hc0]) rfl ⟨rfl, ?_, ?_⟩
  ·have hx := Ne.symm hne
   rw [HT.out.2]
   rw [HQ.out] at hr2
   exact rd_new (rd_new (rd_new hr2 hx _ _) hx _ _) hx _ _
  ·exact kept_new (kept_new (kept_new (kept_trans (kept_alloc _ _) hka) (Nat.le_refl _) _ _) (Nat.le_refl _) _ _) (Nat.le_refl _) _ _
 ·have HT : Hid ((subjectOf q) = ⟨(thingOf q).kind, (thingOf q).name, nameOf (q.thing.sees { data := #[35] }).rest⟩ /\ q.subject = (q.thing.sees { data := #[35] }).name) := by
   unfold subjectOf Rd.subject; rw [hp]; exact ⟨rfl, rfl⟩
  rw [hp] at hsee
  rw [agg_nd] at hth
  generalize (thingOf q).kind = tk at *
  generalize (thingOf q).name = tn at *
  generalize (thingOf q).rel = tr at *
  go_enter Tryz.func153, Tryz.ntmps153
  go_wp2_with (first | (go_at_call 90; refine (hth _ (rd_alloc hRd _)).mono ?_; clear hth; rintro e w1 ⟨rfl, hr1, hk1⟩; have hz1 : w.heap.size < w1.heap.size := (by have := hk1.size; simp at this; omega); have hn1 : ¬ w1.heap.size = r := (by omega); have hn2 : ¬ w1.heap.size = w.heap.size := (by omega); have hn3 : ¬ w.heap.size = w1.heap.size := (by omega)) | (go_at_call 89; refine (hsee _ (rd_alloc hr1 _)).mono ?_; rintro e w2 ⟨rfl, hr2, hk2⟩) | (go_at_call 141; refine (nameRd_any r _ _ hr2 S2.out).mono ?_; rintro e w3 ⟨rfl, hr3, hk3⟩; have hkk := kept_trans hk2 hk3; have hc1 := fun o => (kcell hkk).1 w1.heap.size o (by simp) hn1; have hf1 := fun o => (kcell hkk).2 w1.heap.size o (by simp) hn1; have hka := kept_trans (kept_trans hk1 (kept_alloc _ _)) hkk; have hc0 := fun o => (kcell hka).1 w.heap.size o (by simp) hne; have hf0 := fun o => (kcell hka).2 w.heap.size o (by simp) hne))
  refine bodyPost_ret (v := (subjectOf q).val) (by rw [HT.out.1]; simp [results, Tryz.results153, go_sem, Nd.val, hc0]) rfl ⟨rfl, ?_, ?_⟩
  ·have hx := Ne.symm hne
   have hy := Ne.symm hn1
   rw [HT.out.2]
   exact rd_new (rd_new (rd_new (rd_new hr3 hy _ _) hx _ _) hx _ _) hx _ _
  ·exact kept_new (kept_new (kept_new (kept_new (kept_trans (kept_alloc _ _) hka) (by omega) _ _) (Nat.le_refl _) _ _) (Nat.le_refl _) _ _) (Nat.le_refl _) _ _
def isThis (s : ByteArray) : Bool := s.toList == [116, 104, 105, 115]
def Rd.relation (q : Rd) : Rd := if isThis (nameOf q.rest) then q.name.fail else q.name
theorem relation_size (q : Rd) : q.relation.rest.size <= q.rest.size := by
 unfold Rd.relation; split
 ·exact Nat.zero_le _
 ·exact name_size q
theorem relationRd_any (r : Nat) (q : Rd) (w : World) (hRd : RdAt w r q) (hs : q.rest.size <= maxLen) :
  Calls Tryz.prog 159 #[.pointer (some ⟨r, 0, none⟩)] w fun e w' => e = .returned (.string (nameOf q.rest)) /\ RdAt w' r q.relation /\ w.grownBy w' (some r) := by
 have hna := nameRd_any r q w hRd hs
 unfold Rd.relation isThis
 generalize nameOf q.rest = nm at *
 cases ht : (nm.toList == [116, 104, 105, 115])
 ·go_enter Tryz.func159, Tryz.ntmps159
  go_wp2_with (go_at_call 141; refine hna.mono ?_; rintro e w1 ⟨rfl, hr1, hk1⟩)
  go_ret
  exact ⟨rfl, hr1, hk1⟩
 ·go_enter Tryz.func159, Tryz.ntmps159
  go_wp2_with (first | (go_at_call 141; refine hna.mono ?_; clear hna; rintro e w1 ⟨rfl, hr1, hk1⟩) | (go_at_call 160; refine (fail_any r _ _ hr1).mono ?_; rintro e w2 ⟨rfl, hr2, hk2⟩))
  go_ret
  exact ⟨rfl, hr2, kept_trans hk1 hk2⟩
def Rd.head (q : Rd) : Rd := (q.name.must { data := #[35] }).relation
def headKind (q : Rd) : ByteArray := nameOf q.rest
def headRel (q : Rd) : ByteArray := nameOf (q.name.must { data := #[35] }).rest
theorem head_size (q : Rd) : q.head.rest.size <= q.rest.size := Nat.le_trans (relation_size _) (Nat.le_trans (must_size _ _) (name_size _))
theorem headRd_any (r : Nat) (q : Rd) (w : World) (hRd : RdAt w r q) (hs : q.rest.size <= maxLen) :
  Calls Tryz.prog 104 #[.pointer (some ⟨r, 0, none⟩)] w fun e w' => e = .returned (.agg #[.string (headKind q), .string (headRel q)]) /\ RdAt w' r q.head /\ w.grownBy w' (some r) := by
 have hrw : r < w.heap.size := row_lt hRd
 have hne : ¬ w.heap.size = r := by omega
 have s1 := name_size q
 have s2 := must_size q.name { data := #[35] }
 have S2 : Hid ((q.name.must { data := #[35] }).rest.size <= maxLen) := by show _ <= _; omega
 clear s1 s2
 go_enter Tryz.func104, Tryz.ntmps104
 go_wp2_with (first | (go_at_call 141; refine (nameRd_any r q _ (rd_alloc hRd _) hs).mono ?_; clear hs; rintro e w1 ⟨rfl, hr1, hk1⟩) | (go_at_call 105; refine (must_any r q.name { data := #[35] } _ hr1).mono ?_; rintro e w2 ⟨rfl, hr2, hk2⟩) | (go_at_call 159; refine (relationRd_any r _ _ hr2 S2.out).mono ?_; rintro e w3 ⟨rfl, hr3, hk3⟩; have hkk := kept_trans (kept_trans hk1 hk2) hk3; have hcc := fun o => (kcell hkk).1 w.heap.size o (by simp) hne; have hff := fun o => (kcell hkk).2 w.heap.size o (by simp) hne))
 refine bodyPost_ret (v := .agg #[.string (headKind q), .string (headRel q)]) (by simp [results, Tryz.results104, go_sem, headKind, headRel, hcc]) rfl ⟨rfl, ?_, ?_⟩
 ·exact rd_new (rd_new hr3 (Ne.symm hne) _ _) (Ne.symm hne) _ _
 ·exact kept_new (kept_new (kept_trans (kept_alloc _ _) hkk) (Nat.le_refl _) _ _) (Nat.le_refl _) _ _
theorem tail_ne {n : Nat} {a l : Int} {r : List UInt8} (h : tailL n a l r ≠ 0) : n <= r.length /\ follow (r.take n) = true /\ codeBad l (foldC a (r.take n)) = false /\ tailL n a l r = n + 1 := by
 unfold tailL at h ⊢
 by_cases h1 : r.length < n
 ·rw [if_pos h1] at h; exact absurd rfl h
 rw [if_neg h1] at h ⊢
 by_cases h2 : follow (r.take n) = false
 ·rw [if_pos h2] at h; exact absurd rfl h
 rw [if_neg h2] at h ⊢
 by_cases h3 : codeBad l (foldC a (r.take n)) = true
 ·rw [if_pos h3] at h; exact absurd rfl h
 rw [if_neg h3]
 exact ⟨by omega, by simpa using h2, by simpa using h3, rfl⟩
theorem tail_same {n : Nat} {a l : Int} {r r' : List UInt8} (h : tailL n a l r ≠ 0) (hl : n <= r'.length) (ht : r'.take n = r.take n) : tailL n a l r' = n + 1 := by
 obtain ⟨-, h2, h3, -⟩ := tail_ne h
 unfold tailL
 rw [if_neg (by omega), ht, if_neg (by rw [h2]; simp), if_neg (by rw [h3]; simp)]
theorem size_cases (c : UInt8) (r : List UInt8) (h : sizeL (c :: r) ≠ 0) :
  (sizeL (c :: r) = 1 /\ (c.toNat : Int) < 128 /\ ∀ r', sizeL (c :: r') = 1) \/
  ∃ n, 1 <= n /\ sizeL (c :: r) = n + 1 /\ n <= r.length /\ follow (r.take n) = true /\ ∀ r' : List UInt8, n <= r'.length -> r'.take n = r.take n -> sizeL (c :: r') = n + 1 := by
 rw [sizeL_cons] at h ⊢
 by_cases h1 : (c.toNat : Int) < 128
 ·left
  rw [if_pos h1]
  exact ⟨rfl, h1, fun r' => by rw [sizeL_cons, if_pos h1]⟩
 right
 rw [if_neg h1] at h ⊢
 by_cases h2 : 194 <= (c.toNat : Int) /\ (c.toNat : Int) < 224
 ·rw [if_pos h2] at h ⊢
  obtain ⟨q1, q2, -, q4⟩ := tail_ne h
  exact ⟨1, by omega, q4, q1, q2, fun r' hl ht => by rw [sizeL_cons, if_neg h1, if_pos h2]; exact tail_same h hl ht⟩
 rw [if_neg h2] at h ⊢
 by_cases h3 : 224 <= (c.toNat : Int) /\ (c.toNat : Int) < 240
 ·rw [if_pos h3] at h ⊢
  obtain ⟨q1, q2, -, q4⟩ := tail_ne h
  exact ⟨2, by omega, q4, q1, q2, fun r' hl ht => by rw [sizeL_cons, if_neg h1, if_neg h2, if_pos h3]; exact tail_same h hl ht⟩
 rw [if_neg h3] at h ⊢
 by_cases h4 : 240 <= (c.toNat : Int) /\ (c.toNat : Int) < 245
 ·rw [if_pos h4] at h ⊢
  obtain ⟨q1, q2, -, q4⟩ := tail_ne h
  exact ⟨3, by omega, q4, q1, q2, fun r' hl ht => by rw [sizeL_cons, if_neg h1, if_neg h2, if_neg h3, if_pos h4]; exact tail_same h hl ht⟩
 rw [if_neg h4] at h
 exact absurd rfl h
theorem size_append (c : UInt8) (r b : List UInt8) (h : sizeL (c :: r) ≠ 0) : sizeL (c :: (r ++ b)) = sizeL (c :: r) := by
 rcases size_cases c r h with ⟨h1, -, h2⟩ | ⟨n, -, h1, hl, -, h2⟩
 ·rw [h1, h2]
 ·rw [h1]; exact h2 _ (by simp; omega) (List.take_append_of_le_length hl)
theorem size_take (c : UInt8) (r : List UInt8) (n : Nat) (h : sizeL (c :: r) ≠ 0) (hn : sizeL (c :: r) <= n + 1) : sizeL (c :: r.take n) = sizeL (c :: r) := by
 rcases size_cases c r h with ⟨h1, -, h2⟩ | ⟨m, -, h1, hl, -, h2⟩
 ·rw [h1, h2]
 ·rw [h1]; exact h2 _ (by simp; omega) (by rw [List.take_take, Nat.min_eq_left (by omega)])
def noMark (l : List UInt8) : Prop := ∀ x ∈ l, markB x.toNat = false
theorem noMark_take {l : List UInt8} {n : Nat} (h1 : noMark (l.take n)) (h2 : noMark (l.drop n)) : noMark l := by
 intro x hx
 rw [← List.take_append_drop n l] at hx
 rcases List.mem_append.1 hx with h | h
 ·exact h1 x h
 ·exact h2 x h
theorem follow_noMark {l : List UInt8} (h : follow l = true) : noMark l := by
 intro x hx
 unfold follow at h
 rw [List.all_eq_true] at h
 have := h x hx
 simp at this
 exact mark_high _ (by omega)
theorem rune_noMark (c : UInt8) (r : List UInt8) (h : sizeL (c :: r) ≠ 0) (hb : badHead c.toNat = false) : noMark ((c :: r).take (sizeL (c :: r))) := by
 have hc : markB c.toNat = false := by
  unfold badHead at hb; simp at hb; exact hb.1.1
 rcases size_cases c r h with ⟨h1, -, -⟩ | ⟨n, -, h1, -, hf, -⟩
 ·rw [h1]; intro x hx; simp at hx; rw [hx]; exact hc
 ·rw [h1]
  intro x hx
  rw [List.take_succ_cons] at hx
  rcases List.mem_cons.1 hx with h | h
  ·rw [h]; exact hc
  ·exact follow_noMark hf x h
theorem nameR_noMark : ∀ (r : Nat) (l : List UInt8), nameR r l = true -> noMark l := by
 intro r
 induction r with
 | zero => intro l h; simp [nameR] at h
 | succ r ih =>
  intro l h
  cases l with
  | nil => intro x hx; cases hx
  | cons c l =>
   by_cases hg : sizeL (c :: l) = 0 \/ badHead c.toNat = true
   ·rw [nameR_bad r c l hg] at h; cases h
   ·have h0 : sizeL (c :: l) ≠ 0 := fun e => hg (Or.inl e)
    have hb : badHead c.toNat = false := by
     cases e : badHead c.toNat
     ·rfl
     ·exact absurd (Or.inr e) hg
    rw [nameR_good r c l h0 hb] at h
    exact noMark_take (rune_noMark c l h0 hb) (ih _ h)
def ends (b : List UInt8) : Prop := b = [] \/ ∃ c r, b = c :: r /\ markB c.toNat = true
theorem mark_bad {c : UInt8} (h : markB c.toNat = true) : badHead c.toNat = true := by unfold badHead; rw [h]; rfl
theorem nl_of_name : ∀ (r : Nat) (a b : List UInt8), ends b -> nameR (r + 1) a = true -> nl r (a ++ b) = some a.length := by
 intro r
 induction r with
 | zero =>
  intro a b hb h
  cases a with
  | nil =>
   rcases hb with rfl | ⟨c, r, rfl, hm⟩
   ·rfl
   ·exact nl_bad _ _ _ (Or.inr (mark_bad hm))
  | cons c l =>
   by_cases hg : sizeL (c :: l) = 0 \/ badHead c.toNat = true
   ·rw [nameR_bad _ c l hg] at h; cases h
   ·rw [nameR_good _ c l (fun e => hg (Or.inl e)) (by cases e : badHead c.toNat; rfl; exact absurd (Or.inr e) hg)] at h
    simp [nameR] at h
 | succ r ih =>
  intro a b hb h
  cases a with
  | nil =>
   rcases hb with rfl | ⟨c, r, rfl, hm⟩
   ·rfl
   ·exact nl_bad _ _ _ (Or.inr (mark_bad hm))
  | cons c l =>
   by_cases hg : sizeL (c :: l) = 0 \/ badHead c.toNat = true
   ·rw [nameR_bad _ c l hg] at h; cases h
   ·have h0 : sizeL (c :: l) ≠ 0 := fun e => hg (Or.inl e)
    have hbd : badHead c.toNat = false := by
     cases e : badHead c.toNat
     ·rfl
     ·exact absurd (Or.inr e) hg
    rw [nameR_good _ c l h0 hbd] at h
    have hs := size_append c l b h0
    have hle := sizeL_le (c :: l)
    rw [List.cons_append, nl_succ _ _ _ (by rw [hs]; exact hg), hs]
    rw [← List.cons_append, List.drop_append_of_le_length hle, ih _ b hb h]
    rw [Option.map_some, List.length_drop]
    exact congrArg some (Nat.sub_add_cancel hle)
theorem name_of_nl : ∀ (r : Nat) (l : List UInt8) (n : Nat), r <= 8 -> nl r l = some n -> (n = 0 -> r < 8) -> nameR (r + 1) (l.take n) = true /\ n <= l.length := by
 intro r
 induction r with
 | zero =>
  intro l n hr8 h h0
  cases l with
  | nil =>
   have : n = 0 := by rw [nl_nil] at h; injection h with h; exact h.symm
   subst this
   exact ⟨rfl, Nat.le_refl _⟩
  | cons c l =>
   by_cases hg : sizeL (c :: l) = 0 \/ badHead c.toNat = true
   ·rw [nl_bad _ _ _ hg] at h
    injection h with h; subst h
    exact ⟨rfl, Nat.zero_le _⟩
   ·rw [nl_zero _ _ hg] at h; cases h
 | succ r ih =>
  intro l n hr8 h h0
  cases l with
  | nil =>
   have : n = 0 := by rw [nl_nil] at h; injection h with h; exact h.symm
   subst this
   exact ⟨by simp [nameR]; exact h0 rfl, Nat.le_refl _⟩
  | cons c l =>
   by_cases hg : sizeL (c :: l) = 0 \/ badHead c.toNat = true
   ·rw [nl_bad _ _ _ hg] at h
    injection h with h; subst h
    exact ⟨by simp [nameR]; exact h0 rfl, Nat.zero_le _⟩
   ·have hz : sizeL (c :: l) ≠ 0 := fun e => hg (Or.inl e)
    have hbd : badHead c.toNat = false := by
     cases e : badHead c.toNat
     ·rfl
     ·exact absurd (Or.inr e) hg
    rw [nl_succ _ _ _ hg, Option.map_eq_some_iff] at h
    obtain ⟨m, hm, rfl⟩ := h
    have hle := sizeL_le (c :: l)
    obtain ⟨k, hk⟩ : ∃ k, sizeL (c :: l) = k + 1 := ⟨sizeL (c :: l) - 1, by omega⟩
    rw [hk] at hm hle ⊢
    have hi := ih _ m (by omega) hm (fun e => by omega)
    rw [List.length_drop] at hi
    refine ⟨?_, by have := hi.2; omega⟩
    have ht : sizeL (c :: l.take (m + k)) = k + 1 := by rw [size_take c l (m + k) hz (by omega), hk]
    rw [show m + (k + 1) = (m + k) + 1 by omega, List.take_succ_cons, nameR_good _ _ _ (by rw [ht]; omega) hbd, ht]
    have e : (c :: l.take (m + k)).drop (k + 1) = ((c :: l).drop (k + 1)).take m := by
     rw [List.drop_succ_cons, List.drop_succ_cons, List.drop_take, Nat.add_sub_cancel]
    rw [e]; exact hi.1
def rd0 (s : ByteArray) : Rd := ⟨s, 0, false⟩
def tupQ (s : ByteArray) : Rd := ((rd0 s).node.must { data := #[64] }).subject
def tupOk (s : ByteArray) : Bool := (tupQ s).ended
def tupNode (s : ByteArray) : Nd := nodeOf (rd0 s)
def tupSubj (s : ByteArray) : Nd := subjectOf ((rd0 s).node.must { data := #[64] })
def tupVal (s : ByteArray) : Value :=
 if tupOk s then .agg #[.string (tupNode s).kind, .string (tupNode s).name, .string (tupNode s).rel, .string (tupSubj s).kind, .string (tupSubj s).name, .string (tupSubj s).rel]
 else .agg #[.string { data := #[] }, .string { data := #[] }, .string { data := #[] }, .string { data := #[] }, .string { data := #[] }, .string { data := #[] }]
theorem rd_lit (w : World) (s : ByteArray) : RdAt (w.alloc (.cells #[.string s, .int .i64 0, .bool false] 141)) w.heap.size (rd0 s) := by
 show (w.heap.push _)[w.heap.size]? = _
 simp [rd0]
theorem below_kept {B r : Nat} {w0 w w' : World} (h : Below B w0 w) (hk : w.grownBy w' (some r)) (hB : B <= w.heap.size) (hr : B <= r) : Below B w0 w' :=
 h.grown hk hB (fun k e => by cases e; exact hr)
theorem readTuple_any (s : ByteArray) (w : World) (hs : s.size <= maxLen) :
  Calls Tryz.prog 98 #[.string s] w fun e w' => e = .returned (.tuple #[tupVal s, .bool (tupOk s)]) /\ Below w.heap.size w w' := by
 have s1 := node_size (rd0 s)
 have s2 := must_size (rd0 s).node { data := #[64] }
 have S0 : Hid ((rd0 s).rest.size <= maxLen) := hs
 have S2 : Hid (((rd0 s).node.must { data := #[64] }).rest.size <= maxLen) := by show _ <= _; have : (rd0 s).rest.size = s.size := rfl; omega
 clear s1 s2
 have HV : Hid (tupVal s = if tupOk s then .agg #[.string (tupNode s).kind, .string (tupNode s).name, .string (tupNode s).rel, .string (tupSubj s).kind, .string (tupSubj s).name, .string (tupSubj s).rel] else .agg #[.string { data := #[] }, .string { data := #[] }, .string { data := #[] }, .string { data := #[] }, .string { data := #[] }, .string { data := #[] }]) := rfl
 have hsu : ∀ r w, RdAt w r ((rd0 s).node.must { data := #[64] }) -> Calls Tryz.prog 153 #[.pointer (some ⟨r, 0, none⟩)] w fun e w' => e = .returned (.agg #[.string (tupSubj s).kind, .string (tupSubj s).name, .string (tupSubj s).rel]) /\ RdAt w' r (tupQ s) /\ w.grownBy w' (some r) := fun r w h => subjectRd_any r ((rd0 s).node.must { data := #[64] }) w h S2.out
 have hno : ∀ r w, RdAt w r (rd0 s) -> Calls Tryz.prog 88 #[.pointer (some ⟨r, 0, none⟩)] w fun e w' => e = .returned (.agg #[.string (tupNode s).kind, .string (tupNode s).name, .string (tupNode s).rel]) /\ RdAt w' r (rd0 s).node /\ w.grownBy w' (some r) := fun r w h => nodeRd_any r (rd0 s) w h S0.out
 have hen := fun r w h => ended_any r (tupQ s) w h
 change ∀ r w, RdAt w r (tupQ s) -> Calls Tryz.prog 91 #[.pointer (some ⟨r, 0, none⟩)] w fun e w' => e = .returned (.bool (tupOk s)) /\ w' = w at hen
 generalize (tupNode s).kind = a1 at *
 generalize (tupNode s).name = a2 at *
 generalize (tupNode s).rel = a3 at *
 generalize (tupSubj s).kind = b1 at *
 generalize (tupSubj s).name = b2 at *
 generalize (tupSubj s).rel = b3 at *
 generalize tupOk s = ok at *
 have hrd := fun o => rd_lit (w.alloc o) s
 simp only [World.size_alloc] at hrd
 cases ok
 all_goals
  go_enter Tryz.func98, Tryz.ntmps98
  go_wp2_with (first | (go_at_call 88; refine (hno _ _ (hrd _)).mono ?_; clear hno; rintro e w1 ⟨rfl, hr1, hk1⟩; have hz1 : w.heap.size + 2 <= w1.heap.size := (by have := hk1.size; simp at this; omega)) | (go_at_call 105; refine (must_any _ _ { data := #[64] } _ (rd_alloc hr1 _)).mono ?_; rintro e w2 ⟨rfl, hr2, hk2⟩) | (go_at_call 153; refine (hsu _ _ hr2).mono ?_; rintro e w3 ⟨rfl, hr3, hk3⟩; have hkk := kept_trans hk2 hk3; have hz3 : w1.heap.size < w3.heap.size := (by have := hkk.size; simp at this; omega); have hz0 : w.heap.size < w3.heap.size := (by omega); have hz2 : ¬ w.heap.size = w3.heap.size := (by omega); have hz4 : ¬ w1.heap.size = w3.heap.size := (by omega); have hc1 := fun o => (kcell hkk).1 w1.heap.size o (by simp) (by omega); have hka := kept_trans (kept_trans hk1 (kept_alloc _ _)) hkk; have hc0 := fun o => (kcell hka).1 w.heap.size o (by simp; omega) (by omega); have hf0 := fun o => (kcell hka).2 w.heap.size o (by simp; omega) (by omega)) | (go_at_call 91; have hx := hen _ _ (rd_alloc hr3 (.cells #[.string b1, .string b2, .string b3] 75)); refine hx.mono ?_; rintro e w4 ⟨rfl, rfl⟩))
  have hB3 : Below w.heap.size w w3 := below_kept ((below_kept (((Below.refl w.heap.size w).alloc (Nat.le_refl _) _).alloc (by simp) _) hk1 (by simp; omega) (by omega)).alloc (by omega) _) hkk (by simp; omega) (by omega)
  refine bodyPost_ret (v := .tuple #[tupVal s, .bool _]) (by rw [HV.out]; simp [results, Tryz.results98, go_sem, hc0, hz0]) rfl ⟨rfl, ?_⟩
  refine Below.alloc ?_ (by simp; omega) _
  refine Below.setCell ?_ (by simp) _
  refine Below.setCell ?_ (by simp) _
  refine Below.setCell ?_ (by simp) _
  refine Below.setCell ?_ (by simp) _
  refine Below.setCell ?_ (by simp) _
  refine Below.setCell ?_ (by simp) _
  exact hB3
def mk (l : List UInt8) : ByteArray := ⟨l.toArray⟩
theorem mk_list (l : List UInt8) : (mk l).data.toList = l := rfl
theorem bytes_ext {a b : ByteArray} (h : a.data.toList = b.data.toList) : a = b := ByteArray.ext (Array.ext' h)
theorem eq_mk {a : ByteArray} {l : List UInt8} (h : a.data.toList = l) : a = mk l := bytes_ext (by rw [h, mk_list])
theorem nameL_ne {a : List UInt8} (h : nameL a = true) : a ≠ [] := by
 intro e; subst e; simp [nameL, nameR] at h
theorem nameL_noMark {a : List UInt8} (h : nameL a = true) : noMark a := nameR_noMark 9 a h
theorem name_ok (q : Rd) (a b : List UInt8) (h : q.rest.data.toList = a ++ b) (ha : nameL a = true) (hb : ends b) : nameOf q.rest = mk a /\ q.name = { q with rest := mk b } := by
 have hn : nl 8 q.rest.data.toList = some a.length := by rw [h]; exact nl_of_name 8 a b hb ha
 have hp : a.length ≠ 0 := fun e => nameL_ne ha (List.eq_nil_of_length_eq_zero e)
 obtain ⟨m, hm⟩ : ∃ m, a.length = m + 1 := ⟨a.length - 1, by omega⟩
 rw [hm] at hn
 constructor
 ·unfold nameOf; rw [hn]; dsimp only
  exact eq_mk (by rw [extract_front, h, ← hm, List.take_left])
 ·unfold Rd.name; rw [hn]; dsimp only
  have e : q.rest.extract (m + 1) q.rest.size = mk b := eq_mk (by rw [extract_list, h, ← hm, List.drop_left])
  rw [e]
theorem name_cases (q : Rd) : q.name = q.fail \/ ∃ a b, q.rest.data.toList = a ++ b /\ nameL a = true /\ nameOf q.rest = mk a /\ q.name = { q with rest := mk b } := by
 unfold Rd.name nameOf
 cases hn : nl 8 q.rest.data.toList with
 | none => left; rfl
 | some n =>
  cases n with
  | zero => left; rfl
  | succ n =>
   right
   have hk := name_of_nl 8 _ _ (Nat.le_refl _) hn (fun e => by omega)
   refine ⟨q.rest.data.toList.take (n + 1), q.rest.data.toList.drop (n + 1), (List.take_append_drop _ _).symm, hk.1, ?_, ?_⟩
   ·exact eq_mk (extract_front _ _)
   ·dsimp only
    have e : q.rest.extract (n + 1) q.rest.size = mk (q.rest.data.toList.drop (n + 1)) := eq_mk (extract_list _ _)
    rw [e]
theorem pre_one (b : List UInt8) (c : UInt8) : preB (mk b) { data := #[c] } = true ↔ ∃ r, b = c :: r := by
 unfold preB
 rw [Lib.toList_data, Lib.toList_data, extract_front, mk_list]
 have hsz : (mk b).size = b.length := by simp [mk, ByteArray.size]
 rw [hsz]
 cases b with
 | nil => simp [ByteArray.size]
 | cons x r =>
  simp only [Bool.and_eq_true, decide_eq_true_eq, beq_iff_eq]
  show (1 <= (x :: r).length /\ (x :: r).take 1 = [c]) ↔ _
  simp
theorem sees_ok (q : Rd) (c : UInt8) (r : List UInt8) (h : q.rest.data.toList = c :: r) : preB q.rest { data := #[c] } = true /\ q.sees { data := #[c] } = { q with rest := mk r } := by
 have hq : q.rest = mk (c :: r) := eq_mk h
 have hp : preB q.rest { data := #[c] } = true := by rw [hq]; exact (pre_one _ _).2 ⟨r, rfl⟩
 refine ⟨hp, ?_⟩
 unfold Rd.sees; rw [hp]
 have e : q.rest.extract 1 q.rest.size = mk r := eq_mk (by rw [extract_list, h]; rfl)
 show { q with rest := q.rest.extract 1 q.rest.size } = _
 rw [e]
theorem pre_no (q : Rd) (c : UInt8) (h : ¬ ∃ r, q.rest.data.toList = c :: r) : preB q.rest { data := #[c] } = false := by
 cases hp : preB q.rest { data := #[c] }
 ·rfl
 ·exfalso; apply h
  have hq : q.rest = mk q.rest.data.toList := eq_mk rfl
  rw [hq] at hp
  exact (pre_one _ _).1 hp
theorem must_ok (q : Rd) (c : UInt8) (r : List UInt8) (h : q.rest.data.toList = c :: r) : q.must { data := #[c] } = { q with rest := mk r } := by
 have := sees_ok q c r h
 unfold Rd.must; rw [this.1, this.2]; rfl
theorem must_no (q : Rd) (c : UInt8) (h : ¬ ∃ r, q.rest.data.toList = c :: r) : q.must { data := #[c] } = q.fail := by
 unfold Rd.must; rw [pre_no q c h]; rfl
theorem sees_f (q : Rd) (m : ByteArray) (h : q.failed = true) : (q.sees m).failed = true := by unfold Rd.sees; split <;> exact h
theorem must_f (q : Rd) (m : ByteArray) (h : q.failed = true) : (q.must m).failed = true := by
 unfold Rd.must; split
 ·exact sees_f q m h
 ·rfl
theorem name_f (q : Rd) (h : q.failed = true) : q.name.failed = true := by
 unfold Rd.name; split
 ·exact h
 ·rfl
theorem thing_f (q : Rd) (h : q.failed = true) : q.thing.failed = true := name_f _ (must_f _ _ (name_f _ h))
theorem subject_f (q : Rd) (h : q.failed = true) : q.subject.failed = true := by
 unfold Rd.subject; split
 ·exact name_f _ (sees_f _ _ (thing_f _ h))
 ·exact thing_f _ h
theorem ended_f (q : Rd) (h : q.failed = true) : q.ended = false := by unfold Rd.ended; rw [h]; simp
theorem name_must (q : Rd) (c : UInt8) (hm : markB c.toNat = true) :
  (∃ a r, q.rest.data.toList = a ++ c :: r /\ nameL a = true /\ nameOf q.rest = mk a /\ q.name.must { data := #[c] } = { q with rest := mk r }) \/
  ((¬ ∃ a r, q.rest.data.toList = a ++ c :: r /\ nameL a = true) /\ (q.name.must { data := #[c] }).failed = true) := by
 by_cases h : ∃ a r, q.rest.data.toList = a ++ c :: r /\ nameL a = true
 ·left
  obtain ⟨a, r, h1, h2⟩ := h
  obtain ⟨g1, g2⟩ := name_ok q a (c :: r) h1 h2 (Or.inr ⟨c, r, rfl, hm⟩)
  refine ⟨a, r, h1, h2, g1, ?_⟩
  rw [g2, must_ok { q with rest := mk (c :: r) } c r (mk_list _)]
 ·right
  refine ⟨h, ?_⟩
  rcases name_cases q with e | ⟨a, b, h1, h2, -, e⟩
  ·rw [e]; exact must_f _ _ rfl
  ·rw [e]
   by_cases hb : ∃ r, b = c :: r
   ·obtain ⟨r, rfl⟩ := hb
    exact absurd ⟨a, r, h1, h2⟩ h
   ·rw [must_no { q with rest := mk b } c (by rintro ⟨r, hr⟩; exact hb ⟨r, hr⟩)]; rfl
def otail : Option (List UInt8) -> List UInt8
 | none => []
 | some x => 35 :: x
def orel : Option (List UInt8) -> ByteArray
 | none => { data := #[] }
 | some x => mk x
structure TupD (l k n r k2 n2 : List UInt8) (o : Option (List UInt8)) : Prop where
 text : l = k ++ 58 :: (n ++ 35 :: (r ++ 64 :: (k2 ++ 58 :: (n2 ++ otail o))))
 hk : nameL k = true
 hn : nameL n = true
 hr : nameL r = true
 hk2 : nameL k2 = true
 hn2 : nameL n2 = true
 ho : ∀ x, o = some x -> nameL x = true
theorem m58 : markB ((58 : UInt8).toNat : Int) = true := by decide
theorem m35 : markB ((35 : UInt8).toNat : Int) = true := by decide
theorem m64 : markB ((64 : UInt8).toNat : Int) = true := by decide
theorem nm_ok (a b : List UInt8) (c : UInt8) (hm : markB c.toNat = true) (ha : nameL a = true) : nameOf (mk (a ++ c :: b)) = mk a /\ (Rd.mk (mk (a ++ c :: b)) 0 false).name.must { data := #[c] } = Rd.mk (mk b) 0 false := by
 obtain ⟨g1, g2⟩ := name_ok (Rd.mk (mk (a ++ c :: b)) 0 false) a (c :: b) rfl ha (Or.inr ⟨c, b, rfl, hm⟩)
 refine ⟨g1, ?_⟩
 rw [g2]; exact must_ok (Rd.mk (mk (c :: b)) 0 false) c b rfl
theorem nm_end (a b : List UInt8) (hb : ends b) (ha : nameL a = true) : nameOf (mk (a ++ b)) = mk a /\ (Rd.mk (mk (a ++ b)) 0 false).name = Rd.mk (mk b) 0 false :=
 name_ok (Rd.mk (mk (a ++ b)) 0 false) a b rfl ha hb
theorem thing_ok (k n b : List UInt8) (hk : nameL k = true) (hn : nameL n = true) (hb : ends b) :
  thingOf (Rd.mk (mk (k ++ 58 :: (n ++ b))) 0 false) = ⟨mk k, mk n, { data := #[] }⟩ /\ (Rd.mk (mk (k ++ 58 :: (n ++ b))) 0 false).thing = Rd.mk (mk b) 0 false := by
 obtain ⟨a1, a2⟩ := nm_ok k (n ++ b) 58 m58 hk
 obtain ⟨b1, b2⟩ := nm_end n b hb hn
 constructor
 ·unfold thingOf; rw [a2]; dsimp only; rw [a1, b1]
 ·unfold Rd.thing; rw [a2, b2]
theorem node_ok (k n r b : List UInt8) (hk : nameL k = true) (hn : nameL n = true) (hr : nameL r = true) (hb : ends b) :
  nodeOf (Rd.mk (mk (k ++ 58 :: (n ++ 35 :: (r ++ b)))) 0 false) = ⟨mk k, mk n, mk r⟩ /\ (Rd.mk (mk (k ++ 58 :: (n ++ 35 :: (r ++ b)))) 0 false).node = Rd.mk (mk b) 0 false := by
 obtain ⟨a1, a2⟩ := thing_ok k n (35 :: (r ++ b)) hk hn (Or.inr ⟨_, _, rfl, m35⟩)
 obtain ⟨b1, b2⟩ := nm_end r b hb hr
 have e : (Rd.mk (mk (35 :: (r ++ b))) 0 false).must { data := #[35] } = Rd.mk (mk (r ++ b)) 0 false := must_ok _ 35 _ rfl
 constructor
 ·unfold nodeOf; rw [a1, a2, e]; dsimp only; rw [b1]
 ·unfold Rd.node; rw [a2, e, b2]
theorem tup_of (s : ByteArray) (k n r k2 n2 : List UInt8) (o : Option (List UInt8)) (d : TupD s.data.toList k n r k2 n2 o) :
  tupOk s = true /\ tupNode s = ⟨mk k, mk n, mk r⟩ /\ tupSubj s = ⟨mk k2, mk n2, orel o⟩ := by
 obtain ⟨ht, hk, hn, hr, hk2, hn2, ho⟩ := d
 have hs : s = mk (k ++ 58 :: (n ++ 35 :: (r ++ 64 :: (k2 ++ 58 :: (n2 ++ otail o))))) := eq_mk ht
 obtain ⟨a1, a2⟩ := node_ok k n r (64 :: (k2 ++ 58 :: (n2 ++ otail o))) hk hn hr (Or.inr ⟨_, _, rfl, m64⟩)
 have e4 : (rd0 s).node.must { data := #[64] } = Rd.mk (mk (k2 ++ 58 :: (n2 ++ otail o))) 0 false := by
  unfold rd0; rw [hs, a2]; exact must_ok (Rd.mk (mk (64 :: (k2 ++ 58 :: (n2 ++ otail o)))) 0 false) 64 _ rfl
 have hnode : tupNode s = ⟨mk k, mk n, mk r⟩ := by unfold tupNode rd0; rw [hs, a1]
 unfold tupOk tupQ tupSubj
 rw [e4]
 cases o with
 | none =>
  obtain ⟨b1, b2⟩ := thing_ok k2 n2 (otail none) hk2 hn2 (Or.inl rfl)
  have hp : preB (mk (otail none)) { data := #[35] } = false := pre_no (Rd.mk (mk []) 0 false) 35 (by rintro ⟨x, hx⟩; cases hx)
  unfold Rd.subject subjectOf
  rw [b2, b1]
  dsimp only
  rw [hp]
  exact ⟨rfl, hnode, rfl⟩
 | some x =>
  obtain ⟨b1, b2⟩ := thing_ok k2 n2 (otail (some x)) hk2 hn2 (Or.inr ⟨_, _, rfl, m35⟩)
  obtain ⟨hp, hse⟩ := sees_ok (Rd.mk (mk (35 :: x)) 0 false) 35 x rfl
  obtain ⟨c1, c2⟩ := nm_end x [] (Or.inl rfl) (ho x rfl)
  rw [List.append_nil] at c1 c2
  have hp' : preB (mk (otail (some x))) { data := #[35] } = true := hp
  have hse' : (Rd.mk (mk (otail (some x))) 0 false).sees { data := #[35] } = Rd.mk (mk x) 0 false := hse
  unfold Rd.subject subjectOf
  rw [b2, b1]
  dsimp only
  rw [hp', hse', c2]
  refine ⟨rfl, hnode, ?_⟩
  simp only [if_true]
  rw [c1]; rfl
theorem parts_of (s : ByteArray) (h : tupOk s = true) : ∃ k n r k2 n2 o, TupD s.data.toList k n r k2 n2 o := by
 unfold tupOk tupQ at h
 have hf : ∀ q : Rd, q.ended = true -> q.failed = false := by
  intro q hq
  cases e : q.failed
  ·rfl
  ·rw [ended_f q e] at hq; cases hq
 have h1 := hf _ h
 rcases name_must (rd0 s) 58 m58 with ⟨k, l1, t1, hk, -, e1⟩ | ⟨-, e1⟩
 case inr =>
  have hx : ((rd0 s).node.must { data := #[64] }).subject.failed = true := subject_f _ (must_f _ _ (show (rd0 s).node.failed = true from name_f _ (must_f _ _ (show (rd0 s).thing.failed = true from name_f _ e1))))
  rw [hx] at h1; cases h1
 have w1 : (rd0 s).thing = (Rd.mk (mk l1) 0 false).name := by unfold Rd.thing; rw [e1]; rfl
 rcases name_must (Rd.mk (mk l1) 0 false) 35 m35 with ⟨n, l2, t2, hn, -, e2⟩ | ⟨-, e2⟩
 case inr =>
  have hx : ((rd0 s).node.must { data := #[64] }).subject.failed = true := subject_f _ (must_f _ _ (show (rd0 s).node.failed = true from name_f _ (by rw [w1]; exact e2)))
  rw [hx] at h1; cases h1
 have w2 : (rd0 s).node = (Rd.mk (mk l2) 0 false).name := by unfold Rd.node; rw [w1, e2]
 rcases name_must (Rd.mk (mk l2) 0 false) 64 m64 with ⟨r, l3, t3, hr, -, e3⟩ | ⟨-, e3⟩
 case inr => exact absurd h1 (by rw [subject_f _ (by rw [w2]; exact e3)]; simp)
 rw [w2, e3] at h
 rcases name_must (Rd.mk (mk l3) 0 false) 58 m58 with ⟨k2, l4, t4, hk2, -, e4⟩ | ⟨-, e4⟩
 case inr =>
  exfalso
  have : (Rd.mk (mk l3) 0 false).thing.failed = true := name_f _ e4
  have h2 := hf _ h
  unfold Rd.subject at h2
  split at h2
  ·rw [name_f _ (sees_f _ _ this)] at h2; cases h2
  ·rw [this] at h2; cases h2
 have w3 : (Rd.mk (mk l3) 0 false).thing = (Rd.mk (mk l4) 0 false).name := by unfold Rd.thing; rw [e4]
 have T : ∀ x, s.data.toList = k ++ 58 :: (n ++ 35 :: (r ++ 64 :: (k2 ++ 58 :: x))) ↔ l4 = x := by
  intro x
  have q1 : s.data.toList = k ++ 58 :: l1 := t1
  have q2 : l1 = n ++ 35 :: l2 := t2
  have q3 : l2 = r ++ 64 :: l3 := t3
  have q4 : l3 = k2 ++ 58 :: l4 := t4
  rw [q1, q2, q3, q4]
  simp
 have hend : ∀ (b : List UInt8), (Rd.mk (mk b) 0 false).ended = true -> b = [] := by
  intro b hb
  unfold Rd.ended at hb
  simp only [Bool.not_false, Bool.and_true, decide_eq_true_eq] at hb
  exact List.eq_nil_of_length_eq_zero (by simpa [mk, ByteArray.size] using hb)
 rcases name_cases (Rd.mk (mk l4) 0 false) with e | ⟨n2, b, t5, hn2, -, e⟩
 ·exfalso
  have h2 := hf _ h
  unfold Rd.subject at h2
  rw [w3, e] at h2
  split at h2
  ·rw [name_f _ (sees_f _ _ rfl)] at h2; cases h2
  ·cases h2
 have e' : (Rd.mk (mk l3) 0 false).thing = Rd.mk (mk b) 0 false := by rw [w3, e]
 unfold Rd.subject at h
 rw [e'] at h
 cases hp : preB (mk b) { data := #[35] }
 ·dsimp only at h
  rw [hp] at h
  have hb := hend b h
  subst hb
  exact ⟨k, n, r, k2, n2, none, ⟨(T _).2 t5, hk, hn, hr, hk2, hn2, fun x hx => by cases hx⟩⟩
 ·obtain ⟨x, rfl⟩ := (pre_one b 35).1 hp
  dsimp only at h
  rw [hp] at h
  have hse := (sees_ok (Rd.mk (mk (35 :: x)) 0 false) 35 x rfl).2
  simp only [if_true] at h
  rw [hse] at h
  rcases name_cases (Rd.mk (mk x) 0 false) with e6 | ⟨a, b', t6, ha, -, e6⟩
  ·have h2 := hf _ h
   dsimp only at h2
   rw [e6] at h2; cases h2
  ·dsimp only at h
   rw [e6] at h
   have hb := hend b' h
   subst hb
   have t6' : x = a := by have : x = a ++ [] := t6; simpa using this
   have hax : nameL x = true := t6'.symm ▸ ha
   exact ⟨k, n, r, k2, n2, some x, ⟨(T _).2 t5, hk, hn, hr, hk2, hn2, fun y hy => by cases hy; exact hax⟩⟩
theorem idx_at (a b : List UInt8) (c : UInt8) (h : ∀ x ∈ a, x ≠ c) : idxB (a ++ c :: b) c.toNat = some a.length := by
 have hn : idxB a c.toNat = none := by
  unfold idxB
  rw [List.findIdx?_eq_none_iff]
  intro x hx
  have := h x hx
  rw [beq_eq_false_iff_ne]; intro e
  apply this
  rw [u8_eq]; omega
 rw [idxB_snoc a c b _ hn]; simp
theorem cut_at (s : ByteArray) (a b : List UInt8) (c : UInt8) (h : s.data.toList = a ++ c :: b) (hx : ∀ x ∈ a, x ≠ c) : cutA s c.toNat = mk a /\ cutZ s c.toNat = mk b /\ cutOk s c.toNat = true := by
 have hi := idx_at a b c hx
 unfold cutA cutZ cutOk
 rw [h, hi]
 refine ⟨eq_mk ?_, eq_mk ?_, rfl⟩
 ·dsimp only; rw [extract_front, h, List.take_left]
 ·dsimp only; rw [extract_list, h]; simp
theorem cut_of (s : ByteArray) (c : UInt8) (h : cutOk s c.toNat = true) : s.data.toList = (cutA s c.toNat).data.toList ++ c :: (cutZ s c.toNat).data.toList := by
 unfold cutOk at h
 obtain ⟨i, hi⟩ := Option.isSome_iff_exists.1 h
 have hi2 := hi
 unfold idxB at hi2
 rw [List.findIdx?_eq_some_iff_getElem] at hi2
 obtain ⟨hl, hc, -⟩ := hi2
 have hc' : s.data.toList[i] = c := by
  have h2 : ((s.data.toList[i].toNat : Nat) : Int) = c.toNat := eq_of_beq hc
  rw [u8_eq]; omega
 unfold cutA cutZ
 rw [hi]
 dsimp only
 rw [extract_front, extract_list]
 have := (List.take_append_drop i s.data.toList).symm
 rw [List.drop_eq_getElem_cons hl, hc'] at this
 exact this
theorem noMark_ne {a : List UInt8} {c : UInt8} (h : noMark a) (hc : markB c.toNat = true) : ∀ x ∈ a, x ≠ c := by
 intro x hx e
 subst e
 rw [h x hx] at hc; cases hc
theorem thingS_ok (k n : List UInt8) (hk : nameL k = true) (hn : nameL n = true) : thingS (mk (k ++ 58 :: n)) = true := by
 obtain ⟨a1, a2, a3⟩ := cut_at (mk (k ++ 58 :: n)) k n 58 rfl (noMark_ne (nameL_noMark hk) m58)
 unfold thingS nameS
 change cutA (mk (k ++ 58 :: n)) 58 = _ at a1
 change cutZ (mk (k ++ 58 :: n)) 58 = _ at a2
 change cutOk (mk (k ++ 58 :: n)) 58 = _ at a3
 rw [a1, a2, a3, mk_list, mk_list, hk, hn]; rfl
theorem thingS_parts (s : ByteArray) (h : thingS s = true) : ∃ k n, s.data.toList = k ++ 58 :: n /\ nameL k = true /\ nameL n = true := by
 unfold thingS nameS at h
 simp only [Bool.and_eq_true] at h
 exact ⟨_, _, cut_of s 58 h.1.1, h.1.2, h.2⟩
theorem nodeS_ok (k n r : List UInt8) (hk : nameL k = true) (hn : nameL n = true) (hr : nameL r = true) : nodeS (mk (k ++ 58 :: (n ++ 35 :: r))) = true := by
 have hx : ∀ x ∈ k ++ 58 :: n, x ≠ 35 := by
  intro x hx
  rcases List.mem_append.1 hx with h | h
  ·exact noMark_ne (nameL_noMark hk) m35 x h
  ·rcases List.mem_cons.1 h with h | h
   ·rw [h]; decide
   ·exact noMark_ne (nameL_noMark hn) m35 x h
 obtain ⟨a1, a2, a3⟩ := cut_at (mk (k ++ 58 :: (n ++ 35 :: r))) (k ++ 58 :: n) r 35 (by rw [mk_list]; simp) hx
 unfold nodeS nameS
 change cutA (mk (k ++ 58 :: (n ++ 35 :: r))) 35 = _ at a1
 change cutZ (mk (k ++ 58 :: (n ++ 35 :: r))) 35 = _ at a2
 change cutOk (mk (k ++ 58 :: (n ++ 35 :: r))) 35 = _ at a3
 rw [a1, a2, a3, mk_list, thingS_ok k n hk hn, hr]; rfl
theorem nodeS_parts (s : ByteArray) (h : nodeS s = true) : ∃ k n r, s.data.toList = k ++ 58 :: (n ++ 35 :: r) /\ nameL k = true /\ nameL n = true /\ nameL r = true := by
 unfold nodeS nameS at h
 simp only [Bool.and_eq_true] at h
 obtain ⟨k, n, t1, hk, hn⟩ := thingS_parts _ h.1.2
 have t2 := cut_of s 35 h.1.1
 change s.data.toList = (cutA s 35).data.toList ++ 35 :: (cutZ s 35).data.toList at t2
 rw [t1] at t2
 exact ⟨k, n, _, by rw [t2]; simp, hk, hn, h.2⟩
theorem tup_cut (s : ByteArray) (k n r k2 n2 : List UInt8) (o : Option (List UInt8)) (d : TupD s.data.toList k n r k2 n2 o) :
  cutA s 64 = mk (k ++ 58 :: (n ++ 35 :: r)) /\ cutZ s 64 = mk (k2 ++ 58 :: (n2 ++ otail o)) /\ cutOk s 64 = true := by
 have hx : ∀ x ∈ k ++ 58 :: (n ++ 35 :: r), x ≠ 64 := by
  intro x hx
  rcases List.mem_append.1 hx with h | h
  ·exact noMark_ne (nameL_noMark d.hk) m64 x h
  ·rcases List.mem_cons.1 h with h | h
   ·rw [h]; decide
   ·rcases List.mem_append.1 h with h | h
    ·exact noMark_ne (nameL_noMark d.hn) m64 x h
    ·rcases List.mem_cons.1 h with h | h
     ·rw [h]; decide
     ·exact noMark_ne (nameL_noMark d.hr) m64 x h
 exact cut_at s (k ++ 58 :: (n ++ 35 :: r)) (k2 ++ 58 :: (n2 ++ otail o)) 64 (by rw [d.text]; simp) hx
theorem tuple_same (s : ByteArray) : tupleS s = tupOk s := by
 rw [Bool.eq_iff_iff]
 constructor
 ·intro h
  unfold tupleS at h
  simp only [Bool.and_eq_true, Bool.or_eq_true] at h
  obtain ⟨k, n, r, t1, hk, hn, hr⟩ := nodeS_parts _ h.1.2
  have t2 := cut_of s 64 h.1.1
  change s.data.toList = (cutA s 64).data.toList ++ 64 :: (cutZ s 64).data.toList at t2
  rcases h.2 with h3 | h3
  ·obtain ⟨k2, n2, t3, hk2, hn2⟩ := thingS_parts _ h3
   exact (tup_of s k n r k2 n2 none ⟨by rw [t2, t1, t3]; simp [otail], hk, hn, hr, hk2, hn2, fun x hx => by cases hx⟩).1
  ·obtain ⟨k2, n2, r2, t3, hk2, hn2, hr2⟩ := nodeS_parts _ h3
   exact (tup_of s k n r k2 n2 (some r2) ⟨by rw [t2, t1, t3]; simp [otail], hk, hn, hr, hk2, hn2, fun x hx => by cases hx; exact hr2⟩).1
 ·intro h
  obtain ⟨k, n, r, k2, n2, o, d⟩ := parts_of s h
  obtain ⟨a1, a2, a3⟩ := tup_cut s k n r k2 n2 o d
  unfold tupleS
  rw [a1, a2, a3, nodeS_ok k n r d.hk d.hn d.hr]
  cases o with
  | none =>
   have : thingS (mk (k2 ++ 58 :: (n2 ++ otail none))) = true := by
    show thingS (mk (k2 ++ 58 :: (n2 ++ []))) = true
    rw [List.append_nil]; exact thingS_ok k2 n2 d.hk2 d.hn2
   rw [this]; rfl
  | some x =>
   have : nodeS (mk (k2 ++ 58 :: (n2 ++ otail (some x)))) = true := nodeS_ok k2 n2 x d.hk2 d.hn2 (d.ho x rfl)
   rw [this]; simp
def queHas (s : ByteArray) : Bool := preB (rd0 s).node.rest { data := #[64] }
def queQ (s : ByteArray) : Rd := if queHas s then ((rd0 s).node.sees { data := #[64] }).thing else (rd0 s).node
def queOk (s : ByteArray) : Bool := (queQ s).ended
def queSubj (s : ByteArray) : Nd := if queHas s then thingOf ((rd0 s).node.sees { data := #[64] }) else ⟨{ data := #[] }, { data := #[] }, { data := #[] }⟩
def queVal (s : ByteArray) : Value :=
 if queOk s then .agg #[.string (tupNode s).kind, .string (tupNode s).name, .string (tupNode s).rel, .string (queSubj s).kind, .string (queSubj s).name, .string (queSubj s).rel]
 else .agg #[.string { data := #[] }, .string { data := #[] }, .string { data := #[] }, .string { data := #[] }, .string { data := #[] }, .string { data := #[] }]
theorem Rd.sees_no (q : Rd) (m : ByteArray) (h : preB q.rest m = false) : q.sees m = q := by unfold Rd.sees; rw [h]; rfl
theorem queQ_no {s : ByteArray} (h : queHas s = false) : (rd0 s).node.sees { data := #[64] } = queQ s := (Rd.sees_no _ _ h).trans (if_neg (fun e => by cases h.symm.trans e)).symm
theorem queQ_yes {s : ByteArray} (h : queHas s = true) : queQ s = ((rd0 s).node.sees { data := #[64] }).thing := if_pos h
theorem queSubj_no {s : ByteArray} (h : queHas s = false) : queSubj s = ⟨{ data := #[] }, { data := #[] }, { data := #[] }⟩ := if_neg (fun e => by cases h.symm.trans e)
theorem queSubj_yes {s : ByteArray} (h : queHas s = true) : queSubj s = thingOf ((rd0 s).node.sees { data := #[64] }) := if_pos h
theorem readQuestion_any (s : ByteArray) (w : World) (hs : s.size <= maxLen) :
  Calls Tryz.prog 45 #[.string s] w fun e w' => e = .returned (.tuple #[queVal s, .bool (queOk s)]) /\ Below w.heap.size w w' := by
 have s1 := node_size (rd0 s)
 have s2 := sees_size (rd0 s).node { data := #[64] }
 have S0 : Hid ((rd0 s).rest.size <= maxLen) := hs
 have S2 : Hid (((rd0 s).node.sees { data := #[64] }).rest.size <= maxLen) := by show _ <= _; have : (rd0 s).rest.size = s.size := rfl; omega
 clear s1 s2
 have HV : Hid (queVal s = if queOk s then .agg #[.string (tupNode s).kind, .string (tupNode s).name, .string (tupNode s).rel, .string (queSubj s).kind, .string (queSubj s).name, .string (queSubj s).rel] else .agg #[.string { data := #[] }, .string { data := #[] }, .string { data := #[] }, .string { data := #[] }, .string { data := #[] }, .string { data := #[] }]) := rfl
 have hno : ∀ r w, RdAt w r (rd0 s) -> Calls Tryz.prog 88 #[.pointer (some ⟨r, 0, none⟩)] w fun e w' => e = .returned (.agg #[.string (tupNode s).kind, .string (tupNode s).name, .string (tupNode s).rel]) /\ RdAt w' r (rd0 s).node /\ w.grownBy w' (some r) := fun r w h => nodeRd_any r (rd0 s) w h S0.out
 have hsee := fun r w h => sees_any r (rd0 s).node { data := #[64] } w h
 have hen := fun r w h => ended_any r (queQ s) w h
 change ∀ r w, RdAt w r (queQ s) -> Calls Tryz.prog 91 #[.pointer (some ⟨r, 0, none⟩)] w fun e w' => e = .returned (.bool (queOk s)) /\ w' = w at hen
 change ∀ r w, RdAt w r (rd0 s).node -> Calls Tryz.prog 89 #[.pointer (some ⟨r, 0, none⟩), .string { data := #[64] }] w fun e w' => e = .returned (.bool (queHas s)) /\ RdAt w' r ((rd0 s).node.sees { data := #[64] }) /\ w.grownBy w' (some r) at hsee
 have hrd := fun o => rd_lit (w.alloc o) s
 simp only [World.size_alloc] at hrd
 cases hh : queHas s
 ·have HQ : Hid ((rd0 s).node.sees { data := #[64] } = queQ s) := queQ_no hh
  have HSU : Hid (queSubj s = ⟨{ data := #[] }, { data := #[] }, { data := #[] }⟩) := queSubj_no hh
  rw [hh, HQ.out] at hsee
  rw [HSU.out] at HV
  generalize (tupNode s).kind = a1 at *
  generalize (tupNode s).name = a2 at *
  generalize (tupNode s).rel = a3 at *
  generalize queOk s = ok at *
  clear HSU hh HQ
  cases ok
  all_goals
   go_enter Tryz.func45, Tryz.ntmps45
   go_wp2_with (first | (go_at_call 88; refine (hno _ _ (hrd _)).mono ?_; clear hno; rintro e w1 ⟨rfl, hr1, hk1⟩; have hz1 : w.heap.size + 2 <= w1.heap.size := (by have := hk1.size; simp at this; omega)) | (go_at_call 89; refine (hsee _ _ (rd_alloc hr1 _)).mono ?_; rintro e w2 ⟨rfl, hr2, hk2⟩; have hz3 : w1.heap.size < w2.heap.size := (by have := hk2.size; simp at this; omega); have hz0 : w.heap.size < w2.heap.size := (by omega); have hc1 := fun o => (kcell hk2).1 w1.heap.size o (by simp) (by omega); have hka := kept_trans (kept_trans hk1 (kept_alloc _ _)) hk2; have hc0 := fun o => (kcell hka).1 w.heap.size o (by simp; omega) (by omega); have hf0 := fun o => (kcell hka).2 w.heap.size o (by simp; omega) (by omega)) | (go_at_call 91; refine (hen _ _ hr2).mono ?_; rintro e w4 ⟨rfl, rfl⟩))
   have hB3 : Below w.heap.size w w4 := below_kept ((below_kept (((Below.refl w.heap.size w).alloc (Nat.le_refl _) _).alloc (by simp) _) hk1 (by simp; omega) (by omega)).alloc (by omega) _) hk2 (by simp; omega) (by omega)
   refine bodyPost_ret (v := .tuple #[queVal s, .bool _]) (by rw [HV.out]; simp [results, Tryz.results45, go_sem, hc0]) rfl ⟨rfl, ?_⟩
   refine Below.setCell ?_ (by simp) _
   refine Below.setCell ?_ (by simp) _
   refine Below.setCell ?_ (by simp) _
   refine Below.setCell ?_ (by simp) _
   refine Below.setCell ?_ (by simp) _
   refine Below.setCell ?_ (by simp) _
   exact hB3
 ·have HQ : Hid (queQ s = ((rd0 s).node.sees { data := #[64] }).thing) := queQ_yes hh
  have HSU : Hid (queSubj s = thingOf ((rd0 s).node.sees { data := #[64] })) := queSubj_yes hh
  have hth : ∀ r w, RdAt w r ((rd0 s).node.sees { data := #[64] }) -> Calls Tryz.prog 90 #[.pointer (some ⟨r, 0, none⟩)] w fun e w' => e = .returned (.agg #[.string (queSubj s).kind, .string (queSubj s).name, .string (queSubj s).rel]) /\ RdAt w' r (queQ s) /\ w.grownBy w' (some r) := by
   intro r w h
   rw [HQ.out, HSU.out]
   exact thingRd_any r _ w h S2.out
  rw [hh] at hsee
  generalize (tupNode s).kind = a1 at *
  generalize (tupNode s).name = a2 at *
  generalize (tupNode s).rel = a3 at *
  generalize (queSubj s).kind = b1 at *
  generalize (queSubj s).name = b2 at *
  generalize (queSubj s).rel = b3 at *
  generalize queOk s = ok at *
  clear HSU hh HQ
  cases ok
  all_goals
   go_enter Tryz.func45, Tryz.ntmps45
   go_wp2_with (first | (go_at_call 88; refine (hno _ _ (hrd _)).mono ?_; clear hno; rintro e w1 ⟨rfl, hr1, hk1⟩; have hz1 : w.heap.size + 2 <= w1.heap.size := (by have := hk1.size; simp at this; omega)) | (go_at_call 89; refine (hsee _ _ (rd_alloc hr1 _)).mono ?_; rintro e w2 ⟨rfl, hr2, hk2⟩) | (go_at_call 90; refine (hth _ _ hr2).mono ?_; rintro e w3 ⟨rfl, hr3, hk3⟩; have hkk := kept_trans hk2 hk3; have hz3 : w1.heap.size < w3.heap.size := (by have := hkk.size; simp at this; omega); have hz0 : w.heap.size < w3.heap.size := (by omega); have hz4 : ¬ w1.heap.size = w.heap.size := (by omega); have hz5 : ¬ w.heap.size = w1.heap.size := (by omega); have hc1 := fun o => (kcell hkk).1 w1.heap.size o (by simp) (by omega); have hf1 := fun o => (kcell hkk).2 w1.heap.size o (by simp) (by omega); have hka := kept_trans (kept_trans hk1 (kept_alloc _ _)) hkk; have hc0 := fun o => (kcell hka).1 w.heap.size o (by simp; omega) (by omega); have hf0 := fun o => (kcell hka).2 w.heap.size o (by simp; omega) (by omega)) | (go_at_call 91; refine (hen _ _ (rd_new (rd_new (rd_new hr3 (by omega) _ _) (by omega) _ _) (by omega) _ _)).mono ?_; rintro e w4 ⟨rfl, hw4⟩; subst w4))
   have hB3 : Below w.heap.size w w3 := below_kept ((below_kept (((Below.refl w.heap.size w).alloc (Nat.le_refl _) _).alloc (by simp) _) hk1 (by simp; omega) (by omega)).alloc (by omega) _) hkk (by simp; omega) (by omega)
   refine bodyPost_ret (v := .tuple #[queVal s, .bool _]) (by rw [HV.out]; simp [results, Tryz.results45, go_sem, hc0]) rfl ⟨rfl, ?_⟩
   refine Below.setCell ?_ (by simp) _
   refine Below.setCell ?_ (by simp) _
   refine Below.setCell ?_ (by simp) _
   refine Below.setCell ?_ (by simp) _
   refine Below.setCell ?_ (by simp) _
   refine Below.setCell ?_ (by simp) _
   refine Below.setCell ?_ (by show _ <= _; simp; omega) _
   refine Below.setCell ?_ (by show _ <= _; simp; omega) _
   refine Below.setCell ?_ (by show _ <= _; simp; omega) _
   exact hB3
theorem isCheck_any (a1 a2 a3 b1 b2 b3 : ByteArray) (w : World) :
  Calls Tryz.prog 46 #[.agg #[.string a1, .string a2, .string a3, .string b1, .string b2, .string b3]] w fun e w' => e = .returned (.bool (!((b1.toList == []) && (b2.toList == []) && (b3.toList == [])))) /\ Below w.heap.size w w' := by
 go_enter Tryz.func46, Tryz.ntmps46
 go_wp2
 all_goals go_ret
 all_goals refine ⟨ret_bool ?_, by repeat (first | exact Below.refl _ _ | refine Below.setCell ?_ (by first | exact Nat.le_refl _ | (simp; done) | (simp; omega)) _ | refine below_drewN ?_ _ | refine Below.drew ?_ | refine Below.alloc ?_ (by first | exact Nat.le_refl _ | (simp; done) | (simp; omega)) _)⟩
 all_goals simp [*]
end Go.Proofs.YtalmoiogbdahcaaGreat
