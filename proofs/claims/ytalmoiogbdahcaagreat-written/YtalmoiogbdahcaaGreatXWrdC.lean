import Derived.Test.YtalmoiogbdahcaaGreatXUtfB
import Derived.Lib.OthersKept

/- What the program's reader takes as a name. -/
namespace Go.Proofs.YtalmoiogbdahcaaGreat
open Go.RowKit Go.Lib

/-- how many bytes the runes take that may stand in a name; none: they are more than r. -/
def nl : Nat → List UInt8 → Option Nat
  | _, [] => some 0
  | 0, c :: l => if sizeL (c :: l) = 0 ∨ badHead c.toNat = true then some 0 else none
  | r + 1, c :: l => if sizeL (c :: l) = 0 ∨ badHead c.toNat = true then some 0 else (nl r ((c :: l).drop (sizeL (c :: l)))).map (· + sizeL (c :: l))
def Rd.nameEnd (q : Rd) : Option Nat := nl 8 q.rest.data.toList
def nameOf (s : ByteArray) : ByteArray := match nl 8 s.data.toList with | some (n + 1) => s.extract 0 (n + 1) | _ => { data := #[] }
def Rd.name (q : Rd) : Rd := match nl 8 q.rest.data.toList with | some (n + 1) => { q with rest := q.rest.extract (n + 1) q.rest.size } | _ => q.fail

theorem nl_nil (r : Nat) : nl r [] = some 0 := by cases r <;> rfl
theorem nl_bad (r : Nat) (c : UInt8) (l : List UInt8) (h : sizeL (c :: l) = 0 ∨ badHead c.toNat = true) : nl r (c :: l) = some 0 := by
  cases r <;> rw [nl, if_pos h]
theorem nl_zero (c : UInt8) (l : List UInt8) (h : ¬ (sizeL (c :: l) = 0 ∨ badHead c.toNat = true)) : nl 0 (c :: l) = none := by rw [nl, if_neg h]
theorem nl_succ (r : Nat) (c : UInt8) (l : List UInt8) (h : ¬ (sizeL (c :: l) = 0 ∨ badHead c.toNat = true)) : nl (r + 1) (c :: l) = (nl r ((c :: l).drop (sizeL (c :: l)))).map (· + sizeL (c :: l)) := by rw [nl, if_neg h]

theorem ret_str {a b : ByteArray} (h : a = b) : Ending.returned (.string a) = .returned (.string b) := by rw [h]
/-- the reader's cells, in a world that has grown. -/
theorem rd_below {B r : Nat} {q : Rd} {w w' : World} (h : RdAt w r q) (hb : Below B w w') (hr : r < B) : RdAt w' r q := by
  unfold RdAt at h ⊢; rw [hb.block r hr]; exact h
theorem kept_below {r : Nat} {w w' : World} (hb : Below w.heap.size w w') : w.grownBy w' (some r) :=
  ⟨hb.os, hb.tape, hb.output, hb.size, fun k hk _ => hb.block k hk⟩

theorem good_false {s : ByteArray} {p : Nat} (h : p < s.size) (hg : goodAt s p = false) : sizeL (s[p]'h :: s.data.toList.drop (p + 1)) = 0 ∨ badHead (s[p]'h).toNat = true := by
  have hby : (s.data.toList.getD p 0).toNat = (s[p]'h).toNat := by
    rw [List.getD_eq_getElem?_getD, List.getElem?_eq_getElem (by simpa using h)]; rfl
  unfold goodAt at hg
  rw [hby, drop_cons s p h] at hg
  by_cases h0 : sizeL (s[p]'h :: s.data.toList.drop (p + 1)) = 0
  · exact Or.inl h0
  · right; simpa [h0] using hg
theorem good_true {s : ByteArray} {p : Nat} (h : p < s.size) (hg : goodAt s p = true) : ¬ (sizeL (s[p]'h :: s.data.toList.drop (p + 1)) = 0 ∨ badHead (s[p]'h).toNat = true) := by
  have hby : (s.data.toList.getD p 0).toNat = (s[p]'h).toNat := by
    rw [List.getD_eq_getElem?_getD, List.getElem?_eq_getElem (by simpa using h)]; rfl
  unfold goodAt at hg
  rw [hby, drop_cons s p h] at hg
  simp at hg
  rintro (h0 | h0)
  · exact hg.1 h0
  · rw [hg.2] at h0; cases h0

set_option maxRecDepth 100000 in
set_option maxHeartbeats 800000 in
theorem nameRd_any (r : Nat) (q : Rd) (w : World) (hRd : RdAt w r q) (hs : q.rest.size ≤ maxLen) :
    Calls Tryz.prog 141 #[.pointer (some ⟨r, 0, none⟩)] w fun e w' => e = .returned (.string (nameOf q.rest)) ∧ RdAt w' r q.name ∧ w.grownBy w' (some r) := by
  have hrw : r < w.heap.size := row_lt hRd
  obtain ⟨h0, -, -, -, -, -⟩ := rd_cells hRd
  unfold maxLen at hs
  have HQ : Hid (RdAt w r q) := hRd
  clear hRd
  obtain ⟨s, opn, fld⟩ := q
  dsimp only at h0 hs ⊢
  go_enter Tryz.func141, Tryz.ntmps141
  go_wp2
  go_loopw [3, 4, 5, 6] (fun e n _ _ wr => ∃ p k : Nat, e = .int .i64 s.size ∧ n = .int .i64 k ∧ k ≤ 8 ∧ p ≤ s.size ∧ wr.heap[w.heap.size]? = some (.stringIter s p) ∧ Below w.heap.size w wr ∧ nl 8 s.data.toList = (nl (8 - k) (s.data.toList.drop p)).map (· + p) ∧ (k = 0 ↔ p = 0)) (fun _ _ _ _ wr => s.size - wr.iterPos w.heap.size)
  case atStart => exact ⟨0, 0, rfl, rfl, by omega, by omega, World.iter_heap _ _ _, (Below.refl _ _).alloc (Nat.le_refl _) _, by simp, by simp⟩
  case round =>
    obtain ⟨p, k, rfl, rfl, hk, hp, hit, hb, hnl, hkp⟩ := hrel
    have HN : Hid (nl 8 s.data.toList = (nl (8 - k) (s.data.toList.drop p)).map (· + p)) := hnl
    have HB : Hid (Below w.heap.size w wr) := hb
    have HI : Hid (wr.heap[w.heap.size]? = some (.stringIter s p)) := hit
    have HK : Hid (k = 0 ↔ p = 0) := hkp
    have hc0 : wr.cell? ⟨r, 0, none⟩ = some (.string s) := by rw [← h0]; exact hb.cell hrw
    clear hnl hkp hb hit
    by_cases hlt : p < s.size
    · have hn := run_next_any_at (P := Tryz.prog) wr w.heap.size s p 0 HI.out hlt
      have hgi := good_iff s p hlt
      have hds := decode_spec s p hlt
      have hcv : ((Utf8.decode s p).1 : Int) ≤ 1114111 ∧ (((Utf8.decode s p).1 : Int) < 55296 ∨ 57343 < ((Utf8.decode s p).1 : Int)) := by
        rcases hds with ⟨-, hd, -⟩ | ⟨-, -, hv, -⟩
        · rw [hd]; decide
        · simp [Utf8.valid] at hv; omega
      have hin := fun w => inName_any ((Utf8.decode s p).1 : Int) w (by omega) hcv.1 hcv.2
      have hbr := fun w => broken_any ((Utf8.decode s p).1 : Int) (s.extract p s.size) w
      obtain ⟨w2, hw2⟩ : ∃ w2, wr.iterAt w.heap.size s (p + (Utf8.decode s p).2) = w2 := ⟨_, rfl⟩
      have HI2 : Hid (w2.heap[w.heap.size]? = some (.stringIter s (p + (Utf8.decode s p).2))) := by show _ = _; rw [← hw2]; exact iterAt_heap _ _ _ _ _ HI.out
      have HB2 : Hid (Below w.heap.size w w2) := by show Below _ _ _; rw [← hw2]; exact below_iterAt HB.out (Nat.le_refl _) _ _
      have hsz2 : w.heap.size < w2.heap.size := row_lt HI2.out
      rw [hw2] at hn
      clear hw2 hcv
      have HD : Hid ((sizeL (s.data.toList.drop p) = 0 ∧ Utf8.decode s p = (65533, 1) ∧ 128 ≤ (s[p]'hlt).toNat) ∨ (sizeL (s.data.toList.drop p) = (Utf8.decode s p).2 ∧ 1 ≤ (Utf8.decode s p).2 ∧ Utf8.valid (Utf8.decode s p).1 = true ∧ (((s[p]'hlt).toNat < 128 ∧ (Utf8.decode s p).1 = (s[p]'hlt).toNat) ∨ (128 ≤ (s[p]'hlt).toNat ∧ 128 ≤ (Utf8.decode s p).1)))) := hds
      clear hds
      generalize ((Utf8.decode s p).1 : Int) = c at *
      generalize (Utf8.decode s p).2 = kk at *
      have HG : Hid ((inNameB c && !brokenB c (s.extract p s.size)) = goodAt s p) := hgi
      clear hgi
      generalize inNameB c = bi at *
      generalize brokenB c (s.extract p s.size) = bb at *
      have hlen := HB2.out.size
      have hc2 : w2.cell? ⟨r, 0, none⟩ = some (.string s) := by rw [← h0]; exact HB2.out.cell hrw
      cases hgd : goodAt s p
      · have HL : Hid (nl 8 s.data.toList = some p) := by
          show _ = _
          rw [HN.out, drop_cons s p hlt, nl_bad _ _ _ (good_false hlt hgd)]; simp
        have hbad : bi = false ∨ (bi = true ∧ bb = true) := by
          have := HG.out; rw [hgd] at this
          cases bi <;> cases bb <;> simp at this ⊢
        clear hgd
        rcases hbad with rfl | ⟨rfl, rfl⟩
        all_goals
          by_cases hk0 : k = 0
          · subst hk0
            have hp0 : p = 0 := HK.out.1 rfl
            subst hp0
            rw [show s.extract 0 s.size = s by simp] at hbr
            have HF : Hid (nameOf s = { data := #[] } ∧ (Rd.mk s opn fld).name = (Rd.mk s opn fld).fail) := by
              have h8 := HL.out
              constructor
              · unfold nameOf; rw [h8]
              · unfold Rd.name; dsimp only; rw [h8]
            go_wp2_with (first | (go_at_call 160; have hRq := rd_below (rd_below HQ.out HB2.out hrw) hb3 (by omega); refine (fail_any r _ _ hRq).mono ?_; rintro e wf ⟨rfl, hrf, hkf⟩) | (go_at_call 183; refine (hin _).mono ?_; rintro e w3 ⟨rfl, hb3⟩; have hc3 := (hb3.cell (p := ⟨r, 0, none⟩) (by show r < _; omega)).trans hc2) | (go_at_call 184; refine (hbr _).mono ?_; rintro e w4 ⟨rfl, rfl⟩))
            go_ret
            exact ⟨ret_str HF.out.1.symm, by rw [HF.out.2]; exact hrf, kept_trans (kept_below (HB2.out.trans (hb3.mono hlen))) hkf⟩
          · have hkb : ((k : Int) == 0) = false := by simp; omega
            have hp0 : 0 < p := by have := HK.out; omega
            have HF : Hid (nameOf s = s.extract 0 p ∧ (Rd.mk s opn fld).name = Rd.mk (s.extract p s.size) opn fld) := by
              obtain ⟨m, rfl⟩ : ∃ m, p = m + 1 := ⟨p - 1, by omega⟩
              have h8 := HL.out
              constructor
              · unfold nameOf; rw [h8]
              · unfold Rd.name; dsimp only; rw [h8]
            have hfz2 := (rd_cells (rd_below HQ.out HB2.out hrw)).2.2.2.1
            go_wp2_with (first | (go_at_call 183; refine (hin _).mono ?_; rintro e w3 ⟨rfl, hb3⟩; have hc3 := (hb3.cell (p := ⟨r, 0, none⟩) (by show r < _; omega)).trans hc2; have hfz3 := (hb3.frozen (p := ⟨r, 0, none⟩) (by show r < _; omega)).trans hfz2) | (go_at_call 184; refine (hbr _).mono ?_; rintro e w4 ⟨rfl, rfl⟩))
            go_ret
            refine ⟨ret_str HF.out.1.symm, ?_, kept_set (kept_below (HB2.out.trans (hb3.mono hlen))) _ _⟩
            rw [HF.out.2]
            exact rd_rest (rd_below (rd_below HQ.out HB2.out hrw) hb3 (by omega)) _
      · have hgood : bi = true ∧ bb = false := by
          have := HG.out; rw [hgd] at this
          cases bi <;> cases bb <;> simp at this ⊢
        obtain ⟨rfl, rfl⟩ := hgood
        have hgt := good_true hlt hgd
        have hkk : sizeL (s[p]'hlt :: s.data.toList.drop (p + 1)) = kk ∧ 1 ≤ kk := by
          rw [← drop_cons s p hlt] at hgt ⊢
          rcases HD.out with ⟨q, -, -⟩ | ⟨q1, q2, -⟩
          · exact absurd (Or.inl q) hgt
          · exact ⟨q1, q2⟩
        have hpk : p + kk ≤ s.size := by
          have := sizeL_le (s[p]'hlt :: s.data.toList.drop (p + 1))
          rw [hkk.1, ← drop_cons s p hlt, List.length_drop] at this
          simp at this; omega
        clear hgd
        by_cases hk8 : k = 8
        · subst hk8
          have HF : Hid (nameOf s = { data := #[] } ∧ (Rd.mk s opn fld).name = (Rd.mk s opn fld).fail) := by
            have h8 : nl 8 s.data.toList = none := by
              rw [HN.out, drop_cons s p hlt]
              show (nl 0 _).map _ = none
              rw [nl_zero _ _ hgt]; rfl
            constructor
            · unfold nameOf; rw [h8]
            · unfold Rd.name; dsimp only; rw [h8]
          clear hgt hkk hpk
          go_wp2_with (first | (go_at_call 160; have hRq := rd_below (rd_below HQ.out HB2.out hrw) hb3 (by omega); refine (fail_any r _ _ hRq).mono ?_; rintro e wf ⟨rfl, hrf, hkf⟩) | (go_at_call 183; refine (hin _).mono ?_; rintro e w3 ⟨rfl, hb3⟩; have hc3 := (hb3.cell (p := ⟨r, 0, none⟩) (by show r < _; omega)).trans hc2) | (go_at_call 184; refine (hbr _).mono ?_; rintro e w4 ⟨rfl, rfl⟩))
          go_ret
          exact ⟨ret_str HF.out.1.symm, by rw [HF.out.2]; exact hrf, kept_trans (kept_below (HB2.out.trans (hb3.mono hlen))) hkf⟩
        · have HF : Hid (nl 8 s.data.toList = (nl (8 - (k + 1)) (s.data.toList.drop (p + kk))).map (· + (p + kk))) := by
            show _ = _
            rw [HN.out, show 8 - k = (8 - (k + 1)) + 1 by omega, drop_cons s p hlt, nl_succ _ _ _ hgt, hkk.1, ← drop_cons s p hlt, List.drop_drop, Option.map_map]
            congr 1
            funext x; simp; omega
          have HP : Hid (1 ≤ kk ∧ p + kk ≤ s.size) := ⟨hkk.2, hpk⟩
          clear hgt hkk hpk
          go_wp2_with (first | (go_at_call 183; refine (hin _).mono ?_; rintro e w3 ⟨rfl, hb3⟩; have hc3 := (hb3.cell (p := ⟨r, 0, none⟩) (by show r < _; omega)).trans hc2) | (go_at_call 184; refine (hbr _).mono ?_; rintro e w4 ⟨rfl, rfl⟩))
          go_roundw
          case rel =>
            have hh := HP.out
            have hi3 : w4.heap[w.heap.size]? = some (.stringIter s (p + kk)) := by rw [hb3.block _ hsz2]; exact HI2.out
            exact ⟨p + kk, k + 1, rfl, by go_num, by omega, hh.2, hi3, HB2.out.trans (hb3.mono hlen), HF.out, by omega⟩
          case measure =>
            have hh := HP.out
            have hi3 : w4.heap[w.heap.size]? = some (.stringIter s (p + kk)) := by rw [hb3.block _ hsz2]; exact HI2.out
            have e1 : w4.iterPos w.heap.size = p + kk := by unfold World.iterPos; rw [hi3]
            have e2 : wr.iterPos w.heap.size = p := by unfold World.iterPos; rw [HI.out]
            rw [e1, e2]; omega
    · obtain rfl : p = s.size := by omega
      have hn := run_next_end_at (P := Tryz.prog) wr w.heap.size s s.size 0 HI.out hlt
      have HL : Hid (nl 8 s.data.toList = some s.size) := by
        show _ = _
        rw [HN.out, List.drop_eq_nil_of_le (by simp), nl_nil]; simp
      have hRq := rd_below HQ.out HB.out hrw
      by_cases hk0 : k = 0
      · subst hk0
        have hs0 : s.size = 0 := HK.out.1 rfl
        have HF : Hid (nameOf s = { data := #[] } ∧ (Rd.mk s opn fld).name = (Rd.mk s opn fld).fail) := by
          have h8 := HL.out
          rw [hs0] at h8
          constructor
          · unfold nameOf; rw [h8]
          · unfold Rd.name; dsimp only; rw [h8]
        clear hs0
        go_wp2_with (go_at_call 160; refine (fail_any r _ _ hRq).mono ?_; rintro e wf ⟨rfl, hrf, hkf⟩)
        go_ret
        exact ⟨ret_str HF.out.1.symm, by rw [HF.out.2]; exact hrf, kept_trans (kept_below HB.out) hkf⟩
      · have hkb : ((k : Int) == 0) = false := by simp; omega
        have hs0 : 0 < s.size := by have := HK.out; omega
        have HF : Hid (nameOf s = s ∧ (Rd.mk s opn fld).name = Rd.mk ByteArray.empty opn fld) := by
          obtain ⟨m, hm⟩ : ∃ m, s.size = m + 1 := ⟨s.size - 1, by omega⟩
          have h8 := HL.out
          rw [hm] at h8
          constructor
          · unfold nameOf; rw [h8]; dsimp only; rw [← hm]; simp
          · unfold Rd.name; dsimp only; rw [h8]; dsimp only; rw [← hm]; simp
        obtain ⟨-, -, -, hfz, -, -⟩ := rd_cells hRq
        go_wp2
        go_ret
        refine ⟨ret_str HF.out.1.symm, ?_, kept_set (kept_below HB.out) _ _⟩
        rw [HF.out.2]
        exact rd_rest hRq _

end Go.Proofs.YtalmoiogbdahcaaGreat

/- How the program's reader takes a tuple. -/
namespace Go.Proofs.YtalmoiogbdahcaaGreat
open Go.RowKit

theorem kcell {W w1 : World} {r : Nat} (h : W.grownBy w1 (some r)) : (∀ b o, b < W.heap.size → ¬ b = r → w1.cell? ⟨b, o, none⟩ = W.cell? ⟨b, o, none⟩) ∧ (∀ b o, b < W.heap.size → ¬ b = r → w1.frozen? ⟨b, o, none⟩ = W.frozen? ⟨b, o, none⟩) :=
  ⟨fun b o hb hn => World.cell?_of_block (h.block b hb (by simpa using hn)), fun b o hb hn => World.frozen?_of_block (h.block b hb (by simpa using hn))⟩
theorem rd_alloc {w : World} {r : Nat} {q : Rd} (h : RdAt w r q) (o : Obj) : RdAt (w.alloc o) r q := by
  unfold RdAt at h ⊢; rw [Below.heap_alloc _ _ _ (row_lt h)]; exact h
theorem kept_alloc {w : World} (o : Obj) (row : Option Nat) : w.grownBy (w.alloc o) row := ⟨rfl, rfl, rfl, by simp, fun k hk _ => Below.heap_alloc _ _ _ hk⟩
/-- stores into a block that was not there turn nothing that was. -/
theorem kept_new {w wr : World} {row : Option Nat} (h : w.grownBy wr row) {b : Nat} (hb : w.heap.size ≤ b) (j : Nat) (u : Value) : w.grownBy (wr.setCell ⟨b, j, none⟩ u) row :=
  ⟨h.os, h.tape, h.output, by simpa [World.setCell] using h.size, fun k hk hne => by
    rw [Below.heap_setCell _ _ _ _ (by show k ≠ b; omega)]; exact h.block k hk hne⟩
theorem rd_new {w : World} {r b : Nat} {q : Rd} (h : RdAt w r q) (hb : ¬ r = b) (j : Nat) (u : Value) : RdAt (w.setCell ⟨b, j, none⟩ u) r q := by
  unfold RdAt at h ⊢; rw [Below.heap_setCell _ _ _ _ hb]; exact h

theorem fail_size (q : Rd) : q.fail.rest.size ≤ q.rest.size := Nat.zero_le _
theorem sees_size (q : Rd) (m : ByteArray) : (q.sees m).rest.size ≤ q.rest.size := by
  unfold Rd.sees; split
  · simp
  · exact Nat.le_refl _
theorem must_size (q : Rd) (m : ByteArray) : (q.must m).rest.size ≤ q.rest.size := by
  unfold Rd.must; split
  · exact sees_size q m
  · exact fail_size q
theorem name_size (q : Rd) : q.name.rest.size ≤ q.rest.size := by
  unfold Rd.name; split
  · simp
  · exact fail_size q

structure Nd where
  kind : ByteArray
  name : ByteArray
  rel : ByteArray
def Nd.val (n : Nd) : Value := .agg #[.string n.kind, .string n.name, .string n.rel]
def Rd.thing (q : Rd) : Rd := ((q.name).must { data := #[58] }).name
def thingOf (q : Rd) : Nd := ⟨nameOf q.rest, nameOf (q.name.must { data := #[58] }).rest, { data := #[] }⟩
def Rd.node (q : Rd) : Rd := ((q.thing).must { data := #[35] }).name
def nodeOf (q : Rd) : Nd := { thingOf q with rel := nameOf (q.thing.must { data := #[35] }).rest }
def Rd.subject (q : Rd) : Rd := if preB q.thing.rest { data := #[35] } then (q.thing.sees { data := #[35] }).name else q.thing
def subjectOf (q : Rd) : Nd := if preB q.thing.rest { data := #[35] } then { thingOf q with rel := nameOf (q.thing.sees { data := #[35] }).rest } else thingOf q
theorem thing_size (q : Rd) : q.thing.rest.size ≤ q.rest.size := Nat.le_trans (name_size _) (Nat.le_trans (must_size _ _) (name_size _))
theorem node_size (q : Rd) : q.node.rest.size ≤ q.rest.size := Nat.le_trans (name_size _) (Nat.le_trans (must_size _ _) (thing_size _))
theorem subject_size (q : Rd) : q.subject.rest.size ≤ q.rest.size := by
  unfold Rd.subject; split
  · exact Nat.le_trans (name_size _) (Nat.le_trans (sees_size _ _) (thing_size _))
  · exact thing_size _

set_option maxRecDepth 100000 in
set_option maxHeartbeats 800000 in
theorem thingRd_any (r : Nat) (q : Rd) (w : World) (hRd : RdAt w r q) (hs : q.rest.size ≤ maxLen) :
    Calls Tryz.prog 90 #[.pointer (some ⟨r, 0, none⟩)] w fun e w' => e = .returned (thingOf q).val ∧ RdAt w' r q.thing ∧ w.grownBy w' (some r) := by
  have hrw : r < w.heap.size := row_lt hRd
  have hne : ¬ w.heap.size = r := by omega
  have s1 := name_size q
  have s2 := must_size q.name { data := #[58] }
  have S2 : Hid ((q.name.must { data := #[58] }).rest.size ≤ maxLen) := by show _ ≤ _; omega
  clear s1 s2
  go_enter Tryz.func90, Tryz.ntmps90
  go_wp2_with (first | (go_at_call 141; refine (nameRd_any r q _ (rd_alloc hRd _) hs).mono ?_; clear hs; rintro e w1 ⟨rfl, hr1, hk1⟩) | (go_at_call 105; refine (must_any r q.name { data := #[58] } _ hr1).mono ?_; rintro e w2 ⟨rfl, hr2, hk2⟩) | (go_at_call 141; refine (nameRd_any r _ _ hr2 S2.out).mono ?_; rintro e w3 ⟨rfl, hr3, hk3⟩; have hkk := kept_trans (kept_trans hk1 hk2) hk3; have hcc := fun o => (kcell hkk).1 w.heap.size o (by simp) hne; have hff := fun o => (kcell hkk).2 w.heap.size o (by simp) hne))
  refine bodyPost_ret (v := (thingOf q).val) (by simp [results, Tryz.results90, go_sem, Nd.val, thingOf, hcc]) rfl ⟨rfl, ?_, ?_⟩
  · exact rd_new (rd_new (rd_new hr3 (Ne.symm hne) _ _) (Ne.symm hne) _ _) (Ne.symm hne) _ _
  · exact kept_new (kept_new (kept_new (kept_trans (kept_alloc _ _) hkk) (Nat.le_refl _) _ _) (Nat.le_refl _) _ _) (Nat.le_refl _) _ _

theorem agg_nd (q : Rd) : (thingOf q).val = .agg #[.string (thingOf q).kind, .string (thingOf q).name, .string (thingOf q).rel] := rfl

set_option maxRecDepth 100000 in
set_option maxHeartbeats 800000 in
theorem nodeRd_any (r : Nat) (q : Rd) (w : World) (hRd : RdAt w r q) (hs : q.rest.size ≤ maxLen) :
    Calls Tryz.prog 88 #[.pointer (some ⟨r, 0, none⟩)] w fun e w' => e = .returned (nodeOf q).val ∧ RdAt w' r q.node ∧ w.grownBy w' (some r) := by
  have hrw : r < w.heap.size := row_lt hRd
  have hne : ¬ w.heap.size = r := by omega
  have s1 := thing_size q
  have s2 := must_size q.thing { data := #[35] }
  have S2 : Hid ((q.thing.must { data := #[35] }).rest.size ≤ maxLen) := by show _ ≤ _; omega
  have HT : Hid ((nodeOf q) = ⟨(thingOf q).kind, (thingOf q).name, nameOf (q.thing.must { data := #[35] }).rest⟩) := rfl
  have hth := fun w h => thingRd_any r q w h hs
  rw [agg_nd] at hth
  generalize (thingOf q).kind = tk at *
  generalize (thingOf q).name = tn at *
  generalize (thingOf q).rel = tr at *
  clear s1 s2 hs
  go_enter Tryz.func88, Tryz.ntmps88
  go_wp2_with (first | (go_at_call 90; refine (hth _ (rd_alloc hRd _)).mono ?_; clear hth; rintro e w1 ⟨rfl, hr1, hk1⟩; have hz1 : w.heap.size < w1.heap.size := (by have := hk1.size; simp at this; omega); have hn1 : ¬ w1.heap.size = r := (by omega); have hn2 : ¬ w1.heap.size = w.heap.size := (by omega); have hn3 : ¬ w.heap.size = w1.heap.size := (by omega)) | (go_at_call 105; refine (must_any r q.thing { data := #[35] } _ (rd_alloc hr1 _)).mono ?_; rintro e w2 ⟨rfl, hr2, hk2⟩) | (go_at_call 141; refine (nameRd_any r _ _ hr2 S2.out).mono ?_; rintro e w3 ⟨rfl, hr3, hk3⟩; have hkk := kept_trans hk2 hk3; have hc1 := fun o => (kcell hkk).1 w1.heap.size o (by simp) hn1; have hf1 := fun o => (kcell hkk).2 w1.heap.size o (by simp) hn1; have hka := kept_trans (kept_trans hk1 (kept_alloc _ _)) hkk; have hc0 := fun o => (kcell hka).1 w.heap.size o (by simp) hne; have hf0 := fun o => (kcell hka).2 w.heap.size o (by simp) hne))
  refine bodyPost_ret (v := (nodeOf q).val) (by rw [HT.out]; simp [results, Tryz.results88, go_sem, Nd.val, hc0]) rfl ⟨rfl, ?_, ?_⟩
  · have hx := Ne.symm hne
    have hy := Ne.symm hn1
    exact rd_new (rd_new (rd_new (rd_new hr3 hy _ _) hx _ _) hx _ _) hx _ _
  · exact kept_new (kept_new (kept_new (kept_new (kept_trans (kept_alloc _ _) hka) (by omega) _ _) (Nat.le_refl _) _ _) (Nat.le_refl _) _ _) (Nat.le_refl _) _ _

set_option maxRecDepth 100000 in
set_option maxHeartbeats 800000 in
theorem subjectRd_any (r : Nat) (q : Rd) (w : World) (hRd : RdAt w r q) (hs : q.rest.size ≤ maxLen) :
    Calls Tryz.prog 153 #[.pointer (some ⟨r, 0, none⟩)] w fun e w' => e = .returned (subjectOf q).val ∧ RdAt w' r q.subject ∧ w.grownBy w' (some r) := by
  have hrw : r < w.heap.size := row_lt hRd
  have hne : ¬ w.heap.size = r := by omega
  have s1 := thing_size q
  have s2 := sees_size q.thing { data := #[35] }
  have S2 : Hid ((q.thing.sees { data := #[35] }).rest.size ≤ maxLen) := by show _ ≤ _; omega
  have hth := fun w h => thingRd_any r q w h hs
  have hsee := fun w h => sees_any r q.thing { data := #[35] } w h
  clear s1 s2 hs
  cases hp : preB q.thing.rest { data := #[35] }
  · have HT : Hid (subjectOf q = thingOf q ∧ q.subject = q.thing) := by
      unfold subjectOf Rd.subject; rw [hp]; exact ⟨rfl, rfl⟩
    have HQ : Hid (q.thing.sees { data := #[35] } = q.thing) := by
      show _ = _
      unfold Rd.sees; rw [hp]; rfl
    rw [hp] at hsee
    rw [agg_nd] at hth
    have HV : Hid ((thingOf q).val = .agg #[.string (thingOf q).kind, .string (thingOf q).name, .string (thingOf q).rel]) := rfl
    generalize (thingOf q).kind = tk at *
    generalize (thingOf q).name = tn at *
    generalize (thingOf q).rel = tr at *
    go_enter Tryz.func153, Tryz.ntmps153
    go_wp2_with (first | (go_at_call 90; refine (hth _ (rd_alloc hRd _)).mono ?_; clear hth; rintro e w1 ⟨rfl, hr1, hk1⟩; have hz1 : w.heap.size < w1.heap.size := (by have := hk1.size; simp at this; omega); have hn1 : ¬ w1.heap.size = r := (by omega); have hn2 : ¬ w1.heap.size = w.heap.size := (by omega); have hn3 : ¬ w.heap.size = w1.heap.size := (by omega)) | (go_at_call 89; refine (hsee _ (rd_alloc hr1 _)).mono ?_; rintro e w2 ⟨rfl, hr2, hk2⟩; have hkk := hk2; have hc1 := fun o => (kcell hkk).1 w1.heap.size o (by simp) hn1; have hf1 := fun o => (kcell hkk).2 w1.heap.size o (by simp) hn1; have hka := kept_trans (kept_trans hk1 (kept_alloc _ _)) hkk; have hc0 := fun o => (kcell hka).1 w.heap.size o (by simp) hne; have hf0 := fun o => (kcell hka).2 w.heap.size o (by simp) hne))
    refine bodyPost_ret (v := (subjectOf q).val) (by rw [HT.out.1, HV.out]; simp [results, Tryz.results153, go_sem, hc0]) rfl ⟨rfl, ?_, ?_⟩
    · have hx := Ne.symm hne
      rw [HT.out.2]
      rw [HQ.out] at hr2
      exact rd_new (rd_new (rd_new hr2 hx _ _) hx _ _) hx _ _
    · exact kept_new (kept_new (kept_new (kept_trans (kept_alloc _ _) hka) (Nat.le_refl _) _ _) (Nat.le_refl _) _ _) (Nat.le_refl _) _ _
  · have HT : Hid ((subjectOf q) = ⟨(thingOf q).kind, (thingOf q).name, nameOf (q.thing.sees { data := #[35] }).rest⟩ ∧ q.subject = (q.thing.sees { data := #[35] }).name) := by
      unfold subjectOf Rd.subject; rw [hp]; exact ⟨rfl, rfl⟩
    rw [hp] at hsee
    rw [agg_nd] at hth
    generalize (thingOf q).kind = tk at *
    generalize (thingOf q).name = tn at *
    generalize (thingOf q).rel = tr at *
    go_enter Tryz.func153, Tryz.ntmps153
    go_wp2_with (first | (go_at_call 90; refine (hth _ (rd_alloc hRd _)).mono ?_; clear hth; rintro e w1 ⟨rfl, hr1, hk1⟩; have hz1 : w.heap.size < w1.heap.size := (by have := hk1.size; simp at this; omega); have hn1 : ¬ w1.heap.size = r := (by omega); have hn2 : ¬ w1.heap.size = w.heap.size := (by omega); have hn3 : ¬ w.heap.size = w1.heap.size := (by omega)) | (go_at_call 89; refine (hsee _ (rd_alloc hr1 _)).mono ?_; rintro e w2 ⟨rfl, hr2, hk2⟩) | (go_at_call 141; refine (nameRd_any r _ _ hr2 S2.out).mono ?_; rintro e w3 ⟨rfl, hr3, hk3⟩; have hkk := kept_trans hk2 hk3; have hc1 := fun o => (kcell hkk).1 w1.heap.size o (by simp) hn1; have hf1 := fun o => (kcell hkk).2 w1.heap.size o (by simp) hn1; have hka := kept_trans (kept_trans hk1 (kept_alloc _ _)) hkk; have hc0 := fun o => (kcell hka).1 w.heap.size o (by simp) hne; have hf0 := fun o => (kcell hka).2 w.heap.size o (by simp) hne))
    refine bodyPost_ret (v := (subjectOf q).val) (by rw [HT.out.1]; simp [results, Tryz.results153, go_sem, Nd.val, hc0]) rfl ⟨rfl, ?_, ?_⟩
    · have hx := Ne.symm hne
      have hy := Ne.symm hn1
      rw [HT.out.2]
      exact rd_new (rd_new (rd_new (rd_new hr3 hy _ _) hx _ _) hx _ _) hx _ _
    · exact kept_new (kept_new (kept_new (kept_new (kept_trans (kept_alloc _ _) hka) (by omega) _ _) (Nat.le_refl _) _ _) (Nat.le_refl _) _ _) (Nat.le_refl _) _ _

end Go.Proofs.YtalmoiogbdahcaaGreat

/- How the program's reader takes what a rule is for. -/
namespace Go.Proofs.YtalmoiogbdahcaaGreat
open Go.RowKit

def thisB : ByteArray := { data := #[116, 104, 105, 115] }
def isThis (s : ByteArray) : Bool := s.toList == [116, 104, 105, 115]
def Rd.relation (q : Rd) : Rd := if isThis (nameOf q.rest) then q.name.fail else q.name
theorem relation_size (q : Rd) : q.relation.rest.size ≤ q.rest.size := by
  unfold Rd.relation; split
  · exact Nat.zero_le _
  · exact name_size q

set_option maxRecDepth 100000 in
set_option maxHeartbeats 800000 in
theorem relationRd_any (r : Nat) (q : Rd) (w : World) (hRd : RdAt w r q) (hs : q.rest.size ≤ maxLen) :
    Calls Tryz.prog 159 #[.pointer (some ⟨r, 0, none⟩)] w fun e w' => e = .returned (.string (nameOf q.rest)) ∧ RdAt w' r q.relation ∧ w.grownBy w' (some r) := by
  have hna := nameRd_any r q w hRd hs
  unfold Rd.relation isThis
  generalize nameOf q.rest = nm at *
  cases ht : (nm.toList == [116, 104, 105, 115])
  · go_enter Tryz.func159, Tryz.ntmps159
    go_wp2_with (go_at_call 141; refine hna.mono ?_; rintro e w1 ⟨rfl, hr1, hk1⟩)
    go_ret
    exact ⟨rfl, hr1, hk1⟩
  · go_enter Tryz.func159, Tryz.ntmps159
    go_wp2_with (first | (go_at_call 141; refine hna.mono ?_; clear hna; rintro e w1 ⟨rfl, hr1, hk1⟩) | (go_at_call 160; refine (fail_any r _ _ hr1).mono ?_; rintro e w2 ⟨rfl, hr2, hk2⟩))
    go_ret
    exact ⟨rfl, hr2, kept_trans hk1 hk2⟩

def Rd.head (q : Rd) : Rd := (q.name.must { data := #[35] }).relation
def headKind (q : Rd) : ByteArray := nameOf q.rest
def headRel (q : Rd) : ByteArray := nameOf (q.name.must { data := #[35] }).rest
theorem head_size (q : Rd) : q.head.rest.size ≤ q.rest.size := Nat.le_trans (relation_size _) (Nat.le_trans (must_size _ _) (name_size _))

set_option maxRecDepth 100000 in
set_option maxHeartbeats 800000 in
theorem headRd_any (r : Nat) (q : Rd) (w : World) (hRd : RdAt w r q) (hs : q.rest.size ≤ maxLen) :
    Calls Tryz.prog 104 #[.pointer (some ⟨r, 0, none⟩)] w fun e w' => e = .returned (.agg #[.string (headKind q), .string (headRel q)]) ∧ RdAt w' r q.head ∧ w.grownBy w' (some r) := by
  have hrw : r < w.heap.size := row_lt hRd
  have hne : ¬ w.heap.size = r := by omega
  have s1 := name_size q
  have s2 := must_size q.name { data := #[35] }
  have S2 : Hid ((q.name.must { data := #[35] }).rest.size ≤ maxLen) := by show _ ≤ _; omega
  clear s1 s2
  go_enter Tryz.func104, Tryz.ntmps104
  go_wp2_with (first | (go_at_call 141; refine (nameRd_any r q _ (rd_alloc hRd _) hs).mono ?_; clear hs; rintro e w1 ⟨rfl, hr1, hk1⟩) | (go_at_call 105; refine (must_any r q.name { data := #[35] } _ hr1).mono ?_; rintro e w2 ⟨rfl, hr2, hk2⟩) | (go_at_call 159; refine (relationRd_any r _ _ hr2 S2.out).mono ?_; rintro e w3 ⟨rfl, hr3, hk3⟩; have hkk := kept_trans (kept_trans hk1 hk2) hk3; have hcc := fun o => (kcell hkk).1 w.heap.size o (by simp) hne; have hff := fun o => (kcell hkk).2 w.heap.size o (by simp) hne))
  refine bodyPost_ret (v := .agg #[.string (headKind q), .string (headRel q)]) (by simp [results, Tryz.results104, go_sem, headKind, headRel, hcc]) rfl ⟨rfl, ?_, ?_⟩
  · exact rd_new (rd_new hr3 (Ne.symm hne) _ _) (Ne.symm hne) _ _
  · exact kept_new (kept_new (kept_trans (kept_alloc _ _) hkk) (Nat.le_refl _) _ _) (Nat.le_refl _) _ _

end Go.Proofs.YtalmoiogbdahcaaGreat
