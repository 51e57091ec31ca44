import Derived.Test.YtalmoiogbdahcaaGreatYRefA
import Derived.Lib.Strings
import Derived.WideShapes
namespace Go.Proofs.YtalmoiogbdahcaaGreat
set_option maxRecDepth 100000
set_option maxHeartbeats 8000000
open Go.RowKit
theorem bcell {W w1 : World} (hb : Below W.heap.size W w1) : (∀ b o, b < W.heap.size -> w1.cell? ⟨b, o, none⟩ = W.cell? ⟨b, o, none⟩) /\ (∀ b o, b < W.heap.size -> w1.frozen? ⟨b, o, none⟩ = W.frozen? ⟨b, o, none⟩) :=
 ⟨fun b o h => hb.cell (p := ⟨b, o, none⟩) h, fun b o h => hb.frozen (p := ⟨b, o, none⟩) h⟩
theorem is_empty (s : ByteArray) (h : s.size = 0) : s.toList.isEmpty = true := by
 rw [Lib.toList_data, List.isEmpty_iff]; exact List.eq_nil_of_length_eq_zero (by simpa using h)
theorem not_empty (s : ByteArray) (h : 0 < s.size) : s.toList.isEmpty = false := by
 rw [Lib.toList_data, List.isEmpty_eq_false_iff]; intro e
 have h2 : s.data.toList.length = 0 := by rw [e]; rfl
 have h3 : s.data.toList.length = s.size := by simp
 omega
theorem eq_this (s t : ByteArray) (h : s = t) : (s.toList == t.toList) = true := by subst h; simp
theorem ne_this (s t : ByteArray) (h : ¬ s = t) : (s.toList == t.toList) = false := by
 rw [Lib.toList_data, Lib.toList_data]
 rw [beq_eq_false_iff_ne]; intro e; exact h (ByteArray.ext (Array.ext' e))
structure Sc where
 d : Int
 a : Int
 o : Bool
 n : Bool
def Sc.step (q : Sc) (i c : Int) : Sc := if c = 40 then { q with d := q.d + 1 } else if c = 41 then { q with d := q.d - 1 } else if q.d = 0 /\ c = 124 then { q with o := true, a := i } else if q.d = 0 /\ c = 38 then { q with n := true, a := i } else q
def scanK (l : List UInt8) : Nat -> Sc
 | 0 => ⟨0, -1, false, false⟩
 | k + 1 => (scanK l k).step k (l.getD k 0).toNat
def negK (l : List UInt8) : Nat -> Bool
 | 0 => false
 | k + 1 => negK l k || decide ((scanK l (k + 1)).d < 0)
structure Pt where
 is : Int
 A : ByteArray
 B : ByteArray
def Pt.x : Pt := ⟨120, { data := #[] }, { data := #[] }⟩
def thisS : ByteArray := { data := #[116, 104, 105, 115] }
def toThisS : ByteArray := { data := #[62, 116, 104, 105, 115] }
theorem thisS_list : thisS.toList = [116, 104, 105, 115] := by rw [Lib.toList_data]; rfl
theorem toThisS_list : toThisS.toList = [62, 116, 104, 105, 115] := by rw [Lib.toList_data]; rfl
def byteAt (s : ByteArray) (k : Nat) : Int := (s.data.toList.getD k 0).toNat
def arrowS (s : ByteArray) : Pt :=
 if cutOk s 45 = false \/ (cutZ s 45).size = 0 \/ byteAt (cutZ s 45) 0 ≠ 62 then .x
 else if nameS (cutA s 45) = false \/ nameS ((cutZ s 45).extract 1 (cutZ s 45).size) = false \/ cutA s 45 = thisS \/ cutZ s 45 = toThisS then .x
 else ⟨97, cutA s 45, (cutZ s 45).extract 1 (cutZ s 45).size⟩
def plainS (s : ByteArray) : Pt := if s = thisS then ⟨116, { data := #[] }, { data := #[] }⟩ else if nameS s = true then ⟨114, s, { data := #[] }⟩ else arrowS s
def opS (s : ByteArray) (a : Nat) : Pt := ⟨byteAt s a, s.extract 0 a, s.extract (a + 1) s.size⟩
def frameS (s : ByteArray) (inner : Pt) : Pt :=
 if negK s.data.toList s.size = true then .x
 else if (scanK s.data.toList s.size).d ≠ 0 \/ ((scanK s.data.toList s.size).o = true /\ (scanK s.data.toList s.size).n = true) \/ s.size = 0 then .x
 else if 0 <= (scanK s.data.toList s.size).a then opS s (scanK s.data.toList s.size).a.toNat
 else if byteAt s 0 = 40 /\ byteAt s (s.size - 1) = 41 /\ 2 < s.size then inner
 else plainS s
def apartF : Nat -> ByteArray -> Pt
 | 0, s => frameS s .x
 | f + 1, s => frameS s (apartF f (s.extract 1 (s.size - 1)))
def innerF : Nat -> ByteArray -> Pt
 | 0, _ => .x
 | f + 1, s => apartF f (s.extract 1 (s.size - 1))
theorem apartF_eq (f : Nat) (s : ByteArray) : apartF f s = frameS s (innerF f s) := by cases f <;> rfl
theorem scan_bd (l : List UInt8) (k : Nat) : -(k : Int) <= (scanK l k).d /\ (scanK l k).d <= k /\ -1 <= (scanK l k).a /\ (scanK l k).a < k := by
 induction k with
 | zero => simp [scanK]
 | succ k ih =>
  rw [scanK]; unfold Sc.step
  split
  ·dsimp only; omega
  ·split
   ·dsimp only; omega
   ·split
    ·dsimp only; omega
    ·split
     ·dsimp only; omega
     ·omega
theorem scan_on (l : List UInt8) (k : Nat) : ((scanK l k).o = true \/ (scanK l k).n = true) -> 0 <= (scanK l k).a := by
 induction k with
 | zero => simp [scanK]
 | succ k ih =>
  rw [scanK]; unfold Sc.step
  split
  ·exact ih
  ·split
   ·exact ih
   ·split
    ·intro _; dsimp only; omega
    ·split
     ·intro _; dsimp only; omega
     ·exact ih
theorem byteAt_eq (s : ByteArray) (k : Nat) (h : k < s.size) : byteAt s k = (s[k].toNat : Int) := by
 unfold byteAt
 rw [List.getD_eq_getElem?_getD, List.getElem?_eq_getElem (by simpa using h)]; rfl
theorem negK_mono (l : List UInt8) {k n : Nat} (h : negK l k = true) (hk : k <= n) : negK l n = true := by
 induction n with
 | zero => have : k = 0 := by omega
           subst this; exact h
 | succ n ih =>
  by_cases e : k = n + 1
  ·subst e; exact h
  ·rw [negK, ih (by omega)]; rfl
theorem negK_pos (l : List UInt8) (k : Nat) (h : negK l k = false) : 0 <= (scanK l k).d := by
 cases k with
 | zero => simp [scanK]
 | succ k => simp [negK] at h; omega
theorem step40 (d a : Int) (o n : Bool) (i : Int) : (Sc.mk d a o n).step i 40 = ⟨d + 1, a, o, n⟩ := rfl
theorem step41 (d a : Int) (o n : Bool) (i : Int) : (Sc.mk d a o n).step i 41 = ⟨d - 1, a, o, n⟩ := rfl
theorem step124 (a : Int) (o n : Bool) (i : Int) : (Sc.mk 0 a o n).step i 124 = ⟨0, i, true, n⟩ := rfl
theorem step38 (a : Int) (o n : Bool) (i : Int) : (Sc.mk 0 a o n).step i 38 = ⟨0, i, o, true⟩ := rfl
theorem step_else (d a : Int) (o n : Bool) (i c : Int) (h1 : ¬ c = 40) (h2 : ¬ c = 41) (h3 : ¬ (d = 0 /\ c = 124)) (h4 : ¬ (d = 0 /\ c = 38)) : (Sc.mk d a o n).step i c = ⟨d, a, o, n⟩ := by
 unfold Sc.step; rw [if_neg h1, if_neg h2, if_neg h3, if_neg h4]
theorem index_last (s : ByteArray) (h0 : 0 < s.size) (xl : Int) (hxl : (s[s.size - 1].toNat : Int) = xl) : ∀ w, (Instr.index 9 (.string s) (.int .i64 ((s.size : Int) - 1))).run Tryz.prog w = .ok (.int .u8 xl) w := by
 intro w
 rw [run_index_string w _ s _ _ Tryz.underlying9, dif_pos (by omega)]
 subst hxl
 congr 4
 have e : ((s.size : Int) - 1).toNat = s.size - 1 := by omega
 simp only [e]
theorem slice_in (s : ByteArray) (h : 2 < s.size) : ∀ w, (Instr.slice 9 (.string s) (some (.int .i64 1)) (some (.int .i64 ((s.size : Int) - 1))) none).run Tryz.prog w = .ok (.string (s.extract 1 (s.size - 1))) w := by
 intro w
 rw [run_slice_string (P := Tryz.prog) w 9 s .i64 .i64 1 ((s.size : Int) - 1) Tryz.underlying9 (by omega) (by omega) (by omega)]
 have e : ((s.size : Int) - 1).toNat = s.size - 1 := by omega
 rw [e]; rfl
def Pt.val (p : Pt) : Value := .agg #[.int .u8 p.is, .string p.A, .string p.B]
theorem apart_body (f : Nat) (HI : Hid (∀ g, f = g + 1 -> ∀ (s : ByteArray) (w : World), s.size <= maxLen -> s.size <= g -> Calls Tryz.prog 199 #[.string s] w fun e w' => e = .returned (apartF g s).val /\ Below w.heap.size w w'))
  (s : ByteArray) (w : World) (hs : s.size <= maxLen) (hf : s.size <= f) :
  Calls Tryz.prog 199 #[.string s] w fun e w' => e = .returned (apartF f s).val /\ Below w.heap.size w w' := by
 have HS : Hid (s.size <= maxLen) := hs
 unfold maxLen at hs
 go_enter Tryz.func199, Tryz.ntmps199
 go_wp2
 go_loop [3, 4, 5, 6, 7] (fun d a o n i => ∃ k : Nat, k <= s.size /\ i = .int .i64 k /\ d = .int .i64 (scanK s.data.toList k).d /\ a = .int .i64 (scanK s.data.toList k).a /\ o = .bool (scanK s.data.toList k).o /\ n = .bool (scanK s.data.toList k).n /\ negK s.data.toList k = false) (fun _ _ _ _ i => s.size - (intOf i).toNat)
 case atStart => exact ⟨0, by omega, rfl, rfl, rfl, rfl, rfl, rfl⟩
 case round =>
  obtain ⟨k, hk, rfl, rfl, rfl, rfl, rfl, hneg⟩ := hrel
  have HN : Hid (negK s.data.toList k = false) := hneg
  clear hneg
  have hbd := scan_bd s.data.toList k
  by_cases hlt : k < s.size
  ·have HC : Hid (scanK s.data.toList (k + 1) = (scanK s.data.toList k).step k (byteAt s k)) := rfl
   obtain ⟨c, hc⟩ : ∃ c : Int, (s[k].toNat : Int) = c := ⟨_, rfl⟩
   rw [byteAt_eq s k hlt, hc] at HC
   have HG : Hid (negK s.data.toList (k + 1) = (negK s.data.toList k || decide ((scanK s.data.toList (k + 1)).d < 0))) := rfl
   generalize hq1 : scanK s.data.toList (k + 1) = q1 at HC HG
   have HQ1 : Hid (scanK s.data.toList (k + 1) = q1) := hq1
   clear hq1
   generalize hq : scanK s.data.toList k = q at *
   have HQ : Hid (scanK s.data.toList k = q) := hq
   clear hq
   obtain ⟨d, a, o, n⟩ := q
   dsimp only at hbd ⊢
   have hd0 : 0 <= d := by have := negK_pos _ _ HN.out; rw [HQ.out] at this; exact this
   by_cases h40 : c = 40
   ·subst h40
    rw [step40] at HC
    go_wp2
    go_round
    case rel => exact ⟨k + 1, by omega, by go_num, by rw [HQ1.out, HC.out], by rw [HQ1.out, HC.out], by rw [HQ1.out, HC.out], by rw [HQ1.out, HC.out], by rw [HG.out, HN.out, HC.out]; simp <;> omega⟩
    case measure => simp [intOf]; omega
   ·by_cases h41 : c = 41
    ·subst h41
     rw [step41] at HC
     by_cases hdz : d = 0
     ·subst hdz
      have HX : Hid ((apartF f s) = .x) := by
       show _ = _
       rw [apartF_eq]; unfold frameS
       rw [if_pos (negK_mono _ (k := k + 1) (by rw [HG.out, HN.out, HC.out]; simp) (by omega))]
      go_wp2
      refine bodyPost_ret (v := .agg #[.int .u8 120, .string { data := #[] }, .string { data := #[] }]) (by simp [results, Tryz.results199, go_sem]) rfl ⟨?_, ?_⟩
      ·rw [HX.out]; rfl
      ·exact (Below.refl _ _).alloc (Nat.le_refl _) _
     ·have hdp : 0 < d := by omega
      go_wp2
      go_round
      case rel => exact ⟨k + 1, by omega, by go_num, by rw [HQ1.out, HC.out], by rw [HQ1.out, HC.out], by rw [HQ1.out, HC.out], by rw [HQ1.out, HC.out], by rw [HG.out, HN.out, HC.out]; simp <;> omega⟩
      case measure => simp [intOf]; omega
    ·by_cases hdz : d = 0
     ·subst hdz
      by_cases h124 : c = 124
      ·subst h124
       rw [step124] at HC
       go_wp2
       go_round
       case rel => exact ⟨k + 1, by omega, by go_num, by rw [HQ1.out, HC.out], by rw [HQ1.out, HC.out], by rw [HQ1.out, HC.out], by rw [HQ1.out, HC.out], by rw [HG.out, HN.out, HC.out]; simp <;> omega⟩
       case measure => simp [intOf]; omega
      ·by_cases h38 : c = 38
       ·subst h38
        rw [step38] at HC
        go_wp2
        go_round
        case rel => exact ⟨k + 1, by omega, by go_num, by rw [HQ1.out, HC.out], by rw [HQ1.out, HC.out], by rw [HQ1.out, HC.out], by rw [HQ1.out, HC.out], by rw [HG.out, HN.out, HC.out]; simp <;> omega⟩
        case measure => simp [intOf]; omega
       ·rw [step_else _ _ _ _ _ _ h40 h41 (by simp [h124]) (by simp [h38])] at HC
        go_wp2
        go_round
        case rel => exact ⟨k + 1, by omega, by go_num, by rw [HQ1.out, HC.out], by rw [HQ1.out, HC.out], by rw [HQ1.out, HC.out], by rw [HQ1.out, HC.out], by rw [HG.out, HN.out, HC.out]; simp <;> omega⟩
        case measure => simp [intOf]; omega
     ·rw [step_else _ _ _ _ _ _ h40 h41 (by simp [hdz]) (by simp [hdz])] at HC
      go_wp2
      go_round
      case rel => exact ⟨k + 1, by omega, by go_num, by rw [HQ1.out, HC.out], by rw [HQ1.out, HC.out], by rw [HQ1.out, HC.out], by rw [HQ1.out, HC.out], by rw [HG.out, HN.out, HC.out]; simp <;> omega⟩
      case measure => simp [intOf]; omega
  ·obtain rfl : k = s.size := by omega
   have hd0 := negK_pos _ _ HN.out
   have HE : Hid (apartF f s = if (scanK s.data.toList s.size).d ≠ 0 \/ ((scanK s.data.toList s.size).o = true /\ (scanK s.data.toList s.size).n = true) \/ s.size = 0 then .x else if 0 <= (scanK s.data.toList s.size).a then opS s (scanK s.data.toList s.size).a.toNat else if byteAt s 0 = 40 /\ byteAt s (s.size - 1) = 41 /\ 2 < s.size then innerF f s else plainS s) := by
    show _ = _
    rw [apartF_eq]; unfold frameS
    rw [if_neg (by rw [HN.out]; simp)]
   clear HN
   have HO : Hid (((scanK s.data.toList s.size).o = true \/ (scanK s.data.toList s.size).n = true) -> 0 <= (scanK s.data.toList s.size).a) := scan_on _ _
   generalize scanK s.data.toList s.size = q at *
   obtain ⟨d, a, o, n⟩ := q
   dsimp only at hbd hd0 HE HO ⊢
   by_cases hd : d = 0
   ·subst hd
    cases o <;> cases n
    ·by_cases h0 : 0 < s.size
     ·have hemp : s.toList.isEmpty = false := not_empty s h0
      by_cases ha : 0 <= a
      ·have HX : Hid (apartF f s = opS s a.toNat) := by
        show _ = _
        rw [HE.out, if_neg (fun h => h.elim (fun h => h rfl) (fun h => h.elim (fun h => by cases h.1) (fun h => by omega))), if_pos ha]
       clear HE
       obtain ⟨an, rfl⟩ : ∃ an : Nat, a = an := ⟨a.toNat, by omega⟩
       go_wp2
       go_region
       all_goals (go_wp2; refine bodyPost_ret (v := (opS s an).val) (by simp [results, Tryz.results199, go_sem, Pt.val, opS, byteAt_eq s an (by omega)]) rfl ⟨?_, ?_⟩)
       ·rw [HX.out]; rfl
       ·exact ((Below.refl _ _).alloc (Nat.le_refl _) _).drew
      ·obtain rfl : a = -1 := by omega
       obtain ⟨x0, hx0⟩ : ∃ x : Int, (s[0].toNat : Int) = x := ⟨_, rfl⟩
       have hl1 : s.size - 1 < s.size := by omega
       obtain ⟨xl, hxl⟩ : ∃ x : Int, (s[s.size - 1].toNat : Int) = x := ⟨_, rfl⟩
       have HB : Hid (byteAt s 0 = x0 /\ byteAt s (s.size - 1) = xl) := ⟨by rw [byteAt_eq s 0 h0, hx0], by rw [byteAt_eq s _ hl1, hxl]⟩
       have hidx : ∀ w, (Instr.index 9 (.string s) (.int .i64 ((s.size : Int) - 1))).run Tryz.prog w = .ok (.int .u8 xl) w := index_last s h0 xl hxl
       clear hxl hl1
       by_cases hbr : x0 = 40 /\ xl = 41 /\ 2 < s.size
       ·obtain ⟨rfl, rfl, h2⟩ := hbr
        obtain ⟨g, rfl⟩ : ∃ g, f = g + 1 := ⟨f - 1, by omega⟩
        have HX : Hid (apartF (g + 1) s = apartF g (s.extract 1 (s.size - 1))) := by
         show _ = _
         rw [HE.out, if_neg (fun h => h.elim (fun h => h rfl) (fun h => h.elim (fun h => by cases h.1) (fun h => by omega))), if_neg (by omega), if_pos ⟨HB.out.1, HB.out.2, h2⟩]; rfl
        clear HE
        have hin := HI.out g rfl (s.extract 1 (s.size - 1))
        have hez : (s.extract 1 (s.size - 1)).size = s.size - 2 := by simp; omega
        have hsl : ∀ w, (Instr.slice 9 (.string s) (some (.int .i64 1)) (some (.int .i64 ((s.size : Int) - 1))) none).run Tryz.prog w = .ok (.string (s.extract 1 (s.size - 1))) w := slice_in s h2
        generalize s.extract 1 (s.size - 1) = t at *
        have hts : t.size <= maxLen := by have := HS.out; omega
        have hin := fun w => hin w hts (by omega)
        clear hez hts
        generalize hp : apartF g t = p at *
        obtain ⟨pi, pA, pB⟩ := p
        clear hp
        unfold Pt.val at hin
        dsimp only at hin
        go_wp2_with (go_at_call 199; refine (hin _).mono ?_; rintro e w' ⟨rfl, hb⟩; obtain ⟨hcb, hfb⟩ := bcell hb; have hz := hb.size; simp only [World.size_alloc] at hcb hfb hz)
        refine bodyPost_ret (v := (Pt.mk pi pA pB).val) (by simp [results, Tryz.results199, go_sem, Pt.val, hcb]) rfl ⟨?_, ?_⟩
        ·rw [HX.out]
        ·exact (((((Below.refl _ _).alloc (Nat.le_refl _) _).trans (hb.mono (by simp))).setCell (by simp) _).setCell (by simp) _).setCell (by simp) _
       ·have HX : Hid (apartF f s = plainS s) := by
         show _ = _
         rw [HE.out, if_neg (fun h => h.elim (fun h => h rfl) (fun h => h.elim (fun h => by cases h.1) (fun h => by omega))), if_neg (by omega), if_neg (by rw [HB.out.1, HB.out.2]; exact hbr)]
        clear HE HI HB
        have hcase : (x0 == 40) = false \/ (x0 = 40 /\ (xl == 41) = false) \/ (x0 = 40 /\ xl = 41 /\ s.size <= 2) := by simp; omega
        clear hbr
        rcases hcase with h | ⟨rfl, h⟩ | ⟨rfl, rfl, h⟩
        all_goals
         by_cases hth : s = thisS
         ·have hthb : (s.toList == [116, 104, 105, 115]) = true := by rw [← thisS_list]; exact eq_this s thisS hth
          have hpl : plainS s = ⟨116, { data := #[] }, { data := #[] }⟩ := by unfold plainS; rw [if_pos hth]
          rw [hpl] at HX
          clear hpl hth
          go_wp2
          refine bodyPost_ret (v := (Pt.mk 116 { data := #[] } { data := #[] }).val) (by simp [results, Tryz.results199, go_sem, Pt.val]) rfl ⟨?_, ?_⟩
          ·rw [HX.out]
          ·first | exact (Below.refl _ _).alloc (Nat.le_refl _) _ | exact (((below_drewN ((Below.refl _ _).alloc (Nat.le_refl _) _) _).setCell (by simp) _).setCell (by simp) _).setCell (by simp) _
         ·have hthb : (s.toList == [116, 104, 105, 115]) = false := by rw [← thisS_list]; exact ne_this s thisS hth
          have hn0 := fun w => name_any s w HS.out
          cases hnm : nameS s
          ·rw [hnm] at hn0
           have hpl : plainS s = arrowS s := by unfold plainS; rw [if_neg hth, if_neg (by rw [hnm]; simp)]
           rw [hpl] at HX
           clear hpl hth hnm
           obtain ⟨A, Z, O, hA, hZ, hO, hSa, hSz, hc⟩ := cut_gen s 45 HS.out
           unfold arrowS at HX
           rw [hA, hZ, hO] at HX
           clear hA hZ hO
           have hza := fun w => name_any A w hSa
           have hna := hza
           clear hza
           cases O
           ·rw [if_pos (Or.inl rfl)] at HX
            go_wp2_with (first | (go_at_call 117; refine (hc _).mono ?_; rintro e w' ⟨rfl, ⟨nd, rfl⟩⟩) | (go_at_call 119; refine (hn0 _).mono ?_; clear hn0; rintro e w' ⟨rfl, rfl⟩) | (go_at_call 119; refine (hna _).mono ?_; clear hna; rintro e w' ⟨rfl, rfl⟩) | (go_at_call 119; refine (hny _).mono ?_; rintro e w' ⟨rfl, rfl⟩))
            refine bodyPost_ret (v := Pt.x.val) (by simp [results, Tryz.results199, go_sem, Pt.val, Pt.x]) rfl ⟨?_, ?_⟩
            ·rw [HX.out]
            ·first | exact (Below.refl _ _).alloc (Nat.le_refl _) _ | exact (((below_drewN ((Below.refl _ _).alloc (Nat.le_refl _) _) _).setCell (by simp) _).setCell (by simp) _).setCell (by simp) _
           ·by_cases hz0 : 0 < Z.size
            ·have hze : Z.toList.isEmpty = false := not_empty Z hz0
             have hby := byteAt_eq Z 0 hz0
             obtain ⟨z0, hzz⟩ : ∃ z : Int, (Z[0].toNat : Int) = z := ⟨_, rfl⟩
             rw [hzz] at hby
             rw [hby] at HX
             clear hby
             by_cases h62 : z0 = 62
             ·subst h62
              have hYs : (Z.extract 1 Z.size).size <= maxLen := by simp; omega
              have hny := fun w => name_any (Z.extract 1 Z.size) w hYs
              clear hYs hSa hSz
              rw [if_neg (fun h => h.elim (fun h => by cases h) (fun h => h.elim (fun h => by omega) (fun h => h rfl)))] at HX
              cases hNA : nameS A
              ·rw [if_pos (Or.inl hNA)] at HX
               rw [hNA] at hna
               generalize nameS (Z.extract 1 Z.size) = y at *
               go_wp2_with (first | (go_at_call 117; refine (hc _).mono ?_; rintro e w' ⟨rfl, ⟨nd, rfl⟩⟩) | (go_at_call 119; refine (hn0 _).mono ?_; clear hn0; rintro e w' ⟨rfl, rfl⟩) | (go_at_call 119; refine (hna _).mono ?_; clear hna; rintro e w' ⟨rfl, rfl⟩) | (go_at_call 119; refine (hny _).mono ?_; rintro e w' ⟨rfl, rfl⟩))
               refine bodyPost_ret (v := Pt.x.val) (by simp [results, Tryz.results199, go_sem, Pt.val, Pt.x]) rfl ⟨?_, ?_⟩
               ·rw [HX.out]
               ·first | exact (Below.refl _ _).alloc (Nat.le_refl _) _ | exact (((below_drewN ((Below.refl _ _).alloc (Nat.le_refl _) _) _).setCell (by simp) _).setCell (by simp) _).setCell (by simp) _
              ·rw [hNA] at hna
               cases hNY : nameS (Z.extract 1 Z.size)
               ·rw [if_pos (Or.inr (Or.inl hNY))] at HX
                rw [hNY] at hny
                clear hNY hNA
                go_wp2_with (first | (go_at_call 117; refine (hc _).mono ?_; rintro e w' ⟨rfl, ⟨nd, rfl⟩⟩) | (go_at_call 119; refine (hn0 _).mono ?_; clear hn0; rintro e w' ⟨rfl, rfl⟩) | (go_at_call 119; refine (hna _).mono ?_; clear hna; rintro e w' ⟨rfl, rfl⟩) | (go_at_call 119; refine (hny _).mono ?_; rintro e w' ⟨rfl, rfl⟩))
                refine bodyPost_ret (v := Pt.x.val) (by simp [results, Tryz.results199, go_sem, Pt.val, Pt.x]) rfl ⟨?_, ?_⟩
                ·rw [HX.out]
                ·first | exact (Below.refl _ _).alloc (Nat.le_refl _) _ | exact (((below_drewN ((Below.refl _ _).alloc (Nat.le_refl _) _) _).setCell (by simp) _).setCell (by simp) _).setCell (by simp) _
               ·rw [hNY] at hny
                by_cases hAt : A = thisS
                ·have hAb : (A.toList == [116, 104, 105, 115]) = true := by rw [← thisS_list]; exact eq_this A thisS hAt
                 rw [if_pos (Or.inr (Or.inr (Or.inl hAt)))] at HX
                 clear hNY hNA hAt
                 go_wp2_with (first | (go_at_call 117; refine (hc _).mono ?_; rintro e w' ⟨rfl, ⟨nd, rfl⟩⟩) | (go_at_call 119; refine (hn0 _).mono ?_; clear hn0; rintro e w' ⟨rfl, rfl⟩) | (go_at_call 119; refine (hna _).mono ?_; clear hna; rintro e w' ⟨rfl, rfl⟩) | (go_at_call 119; refine (hny _).mono ?_; rintro e w' ⟨rfl, rfl⟩))
                 refine bodyPost_ret (v := Pt.x.val) (by simp [results, Tryz.results199, go_sem, Pt.val, Pt.x]) rfl ⟨?_, ?_⟩
                 ·rw [HX.out]
                 ·first | exact (Below.refl _ _).alloc (Nat.le_refl _) _ | exact (((below_drewN ((Below.refl _ _).alloc (Nat.le_refl _) _) _).setCell (by simp) _).setCell (by simp) _).setCell (by simp) _
                ·have hAb : (A.toList == [116, 104, 105, 115]) = false := by rw [← thisS_list]; exact ne_this A thisS hAt
                 by_cases hZt : Z = toThisS
                 ·have hZb : (Z.toList == [62, 116, 104, 105, 115]) = true := by rw [← toThisS_list]; exact eq_this Z toThisS hZt
                  rw [if_pos (Or.inr (Or.inr (Or.inr hZt)))] at HX
                  clear hNY hNA hAt hZt
                  go_wp2_with (first | (go_at_call 117; refine (hc _).mono ?_; rintro e w' ⟨rfl, ⟨nd, rfl⟩⟩) | (go_at_call 119; refine (hn0 _).mono ?_; clear hn0; rintro e w' ⟨rfl, rfl⟩) | (go_at_call 119; refine (hna _).mono ?_; clear hna; rintro e w' ⟨rfl, rfl⟩) | (go_at_call 119; refine (hny _).mono ?_; rintro e w' ⟨rfl, rfl⟩))
                  refine bodyPost_ret (v := Pt.x.val) (by simp [results, Tryz.results199, go_sem, Pt.val, Pt.x]) rfl ⟨?_, ?_⟩
                  ·rw [HX.out]
                  ·first | exact (Below.refl _ _).alloc (Nat.le_refl _) _ | exact (((below_drewN ((Below.refl _ _).alloc (Nat.le_refl _) _) _).setCell (by simp) _).setCell (by simp) _).setCell (by simp) _
                 ·have hZb : (Z.toList == [62, 116, 104, 105, 115]) = false := by rw [← toThisS_list]; exact ne_this Z toThisS hZt
                  rw [if_neg (by rw [hNA, hNY]; simp [hAt, hZt])] at HX
                  clear hNY hNA hAt hZt
                  go_wp2_with (first | (go_at_call 117; refine (hc _).mono ?_; rintro e w' ⟨rfl, ⟨nd, rfl⟩⟩) | (go_at_call 119; refine (hn0 _).mono ?_; clear hn0; rintro e w' ⟨rfl, rfl⟩) | (go_at_call 119; refine (hna _).mono ?_; clear hna; rintro e w' ⟨rfl, rfl⟩) | (go_at_call 119; refine (hny _).mono ?_; rintro e w' ⟨rfl, rfl⟩))
                  refine bodyPost_ret (v := (Pt.mk 97 A (Z.extract 1 Z.size)).val) (by simp [results, Tryz.results199, go_sem, Pt.val]) rfl ⟨?_, ?_⟩
                  ·rw [HX.out]
                  ·first | exact (Below.refl _ _).alloc (Nat.le_refl _) _ | exact (((below_drewN ((Below.refl _ _).alloc (Nat.le_refl _) _) _).setCell (by simp) _).setCell (by simp) _).setCell (by simp) _
             ·have h62b : (z0 == 62) = false := by simpa using h62
              rw [if_pos (Or.inr (Or.inr h62))] at HX
              go_wp2_with (first | (go_at_call 117; refine (hc _).mono ?_; rintro e w' ⟨rfl, ⟨nd, rfl⟩⟩) | (go_at_call 119; refine (hn0 _).mono ?_; clear hn0; rintro e w' ⟨rfl, rfl⟩) | (go_at_call 119; refine (hna _).mono ?_; clear hna; rintro e w' ⟨rfl, rfl⟩) | (go_at_call 119; refine (hny _).mono ?_; rintro e w' ⟨rfl, rfl⟩))
              refine bodyPost_ret (v := Pt.x.val) (by simp [results, Tryz.results199, go_sem, Pt.val, Pt.x]) rfl ⟨?_, ?_⟩
              ·rw [HX.out]
              ·first | exact (Below.refl _ _).alloc (Nat.le_refl _) _ | exact (((below_drewN ((Below.refl _ _).alloc (Nat.le_refl _) _) _).setCell (by simp) _).setCell (by simp) _).setCell (by simp) _
            ·have hze : Z.toList.isEmpty = true := is_empty Z (by omega)
             rw [if_pos (Or.inr (Or.inl (by omega)))] at HX
             go_wp2_with (first | (go_at_call 117; refine (hc _).mono ?_; rintro e w' ⟨rfl, ⟨nd, rfl⟩⟩) | (go_at_call 119; refine (hn0 _).mono ?_; clear hn0; rintro e w' ⟨rfl, rfl⟩) | (go_at_call 119; refine (hna _).mono ?_; clear hna; rintro e w' ⟨rfl, rfl⟩) | (go_at_call 119; refine (hny _).mono ?_; rintro e w' ⟨rfl, rfl⟩))
             refine bodyPost_ret (v := Pt.x.val) (by simp [results, Tryz.results199, go_sem, Pt.val, Pt.x]) rfl ⟨?_, ?_⟩
             ·rw [HX.out]
             ·first | exact (Below.refl _ _).alloc (Nat.le_refl _) _ | exact (((below_drewN ((Below.refl _ _).alloc (Nat.le_refl _) _) _).setCell (by simp) _).setCell (by simp) _).setCell (by simp) _
          ·rw [hnm] at hn0
           have hpl : plainS s = ⟨114, s, { data := #[] }⟩ := by unfold plainS; rw [if_neg hth, if_pos hnm]
           rw [hpl] at HX
           clear hpl hth hnm
           go_wp2_with (go_at_call 119; refine (hn0 _).mono ?_; rintro e w' ⟨rfl, rfl⟩)
           refine bodyPost_ret (v := (Pt.mk 114 s { data := #[] }).val) (by simp [results, Tryz.results199, go_sem, Pt.val]) rfl ⟨?_, ?_⟩
           ·rw [HX.out]
           ·first | exact (Below.refl _ _).alloc (Nat.le_refl _) _ | exact (((below_drewN ((Below.refl _ _).alloc (Nat.le_refl _) _) _).setCell (by simp) _).setCell (by simp) _).setCell (by simp) _
     ·have HX : Hid (apartF f s = .x) := by show _ = _; rw [HE.out, if_pos (by right; right; omega)]
      have hemp : s.toList.isEmpty = true := is_empty s (by omega)
      go_wp2
      refine bodyPost_ret (v := Pt.x.val) (by simp [results, Tryz.results199, go_sem, Pt.val, Pt.x]) rfl ⟨?_, ?_⟩
      ·rw [HX.out]
      ·exact (Below.refl _ _).alloc (Nat.le_refl _) _
    ·have ha : 0 <= a := HO.out (by simp)
     have h0 : 0 < s.size := by omega
     have hemp : s.toList.isEmpty = false := not_empty s h0
     have HX : Hid (apartF f s = opS s a.toNat) := by
      show _ = _
      rw [HE.out, if_neg (fun h => h.elim (fun h => h rfl) (fun h => h.elim (fun h => by simp at h) (fun h => by omega))), if_pos ha]
     clear HE
     obtain ⟨an, rfl⟩ : ∃ an : Nat, a = an := ⟨a.toNat, by omega⟩
     go_wp2
     go_region
     all_goals (go_wp2; refine bodyPost_ret (v := (opS s an).val) (by simp [results, Tryz.results199, go_sem, Pt.val, opS, byteAt_eq s an (by omega)]) rfl ⟨?_, ?_⟩)
     ·rw [HX.out]; rfl
     ·exact ((Below.refl _ _).alloc (Nat.le_refl _) _).drew
    ·have ha : 0 <= a := HO.out (by simp)
     have h0 : 0 < s.size := by omega
     have hemp : s.toList.isEmpty = false := not_empty s h0
     have HX : Hid (apartF f s = opS s a.toNat) := by
      show _ = _
      rw [HE.out, if_neg (fun h => h.elim (fun h => h rfl) (fun h => h.elim (fun h => by simp at h) (fun h => by omega))), if_pos ha]
     clear HE
     obtain ⟨an, rfl⟩ : ∃ an : Nat, a = an := ⟨a.toNat, by omega⟩
     go_wp2
     go_region
     all_goals (go_wp2; refine bodyPost_ret (v := (opS s an).val) (by simp [results, Tryz.results199, go_sem, Pt.val, opS, byteAt_eq s an (by omega)]) rfl ⟨?_, ?_⟩)
     ·rw [HX.out]; rfl
     ·exact ((Below.refl _ _).alloc (Nat.le_refl _) _).drew
    ·have HX : Hid (apartF f s = .x) := by show _ = _; rw [HE.out, if_pos (by right; left; exact ⟨rfl, rfl⟩)]
     go_wp2
     refine bodyPost_ret (v := .agg #[.int .u8 120, .string { data := #[] }, .string { data := #[] }]) (by simp [results, Tryz.results199, go_sem]) rfl ⟨?_, ?_⟩
     ·rw [HX.out]; rfl
     ·exact (Below.refl _ _).alloc (Nat.le_refl _) _
   ·have HX : Hid (apartF f s = .x) := by show _ = _; rw [HE.out, if_pos (Or.inl hd)]
    have hdp : 0 < d := by omega
    go_wp2
    refine bodyPost_ret (v := .agg #[.int .u8 120, .string { data := #[] }, .string { data := #[] }]) (by simp [results, Tryz.results199, go_sem]) rfl ⟨?_, ?_⟩
    ·rw [HX.out]; rfl
    ·exact (Below.refl _ _).alloc (Nat.le_refl _) _
theorem apart_any : ∀ (f : Nat) (s : ByteArray) (w : World), s.size <= maxLen -> s.size <= f ->
  Calls Tryz.prog 199 #[.string s] w fun e w' => e = .returned (apartF f s).val /\ Below w.heap.size w w' := by
 intro f
 induction f with
 | zero => exact fun s w h1 h2 => apart_body 0 (fun g hg => by omega) s w h1 h2
 | succ f ih =>
  refine fun s w h1 h2 => apart_body (f + 1) ?_ s w h1 h2
  intro g hg
  have e : f = g := by omega
  subst e
  exact ih
def apartS (s : ByteArray) : Pt := apartF s.size s
def wayF : Nat -> ByteArray -> Bool
 | 0, s => if (apartS s).is ≠ 124 /\ (apartS s).is ≠ 38 then decide ((apartS s).is ≠ 120) else false
 | f + 1, s => if (apartS s).is ≠ 124 /\ (apartS s).is ≠ 38 then decide ((apartS s).is ≠ 120) else wayF f (apartS s).A && wayF f (apartS s).B
def wayS (s : ByteArray) : Bool := wayF s.size s
theorem plain_is (s : ByteArray) : (plainS s).is ≠ 124 /\ (plainS s).is ≠ 38 := by
 unfold plainS
 split
 ·simp
 ·split
  ·simp
  ·unfold arrowS
   split
   ·simp [Pt.x]
   ·split <;> simp [Pt.x]
theorem apart_size : ∀ (f : Nat) (s : ByteArray), ((apartF f s).is = 124 \/ (apartF f s).is = 38) -> (apartF f s).A.size < s.size /\ (apartF f s).B.size < s.size := by
 intro f
 induction f with
 | zero =>
  intro s
  rw [apartF_eq]; unfold frameS
  have hbd := scan_bd s.data.toList s.size
  split
  ·simp [Pt.x]
  ·split
   ·simp [Pt.x]
   ·split
    ·intro _; simp [opS]; omega
    ·split
     ·simp [innerF, Pt.x]
     ·have := plain_is s; intro h; omega
 | succ f ih =>
  intro s
  rw [apartF_eq]; unfold frameS
  have hbd := scan_bd s.data.toList s.size
  split
  ·simp [Pt.x]
  ·split
   ·simp [Pt.x]
   ·split
    ·intro _; simp [opS]; omega
    ·split
     ·intro h
      have := ih (s.extract 1 (s.size - 1)) h
      simp only [ByteArray.size_extract] at this
      show (apartF f _).A.size < _ /\ (apartF f _).B.size < _
      omega
     ·have := plain_is s; intro h; omega
theorem way_body (f : Nat) (HI : Hid (∀ g, f = g + 1 -> ∀ (s : ByteArray) (w : World), s.size <= maxLen -> s.size <= g -> Calls Tryz.prog 165 #[.string s] w fun e w' => e = .returned (.bool (wayF g s)) /\ Below w.heap.size w w'))
  (s : ByteArray) (w : World) (hs : s.size <= maxLen) (hf : s.size <= f) :
  Calls Tryz.prog 165 #[.string s] w fun e w' => e = .returned (.bool (wayF f s)) /\ Below w.heap.size w w' := by
 have ha := fun w => apart_any s.size s w hs (Nat.le_refl _)
 have hz := apart_size s.size s
 change (∀ w, Calls Tryz.prog 199 #[.string s] w fun e w' => e = .returned (apartS s).val /\ Below w.heap.size w w') at ha
 change ((apartS s).is = 124 \/ (apartS s).is = 38) -> (apartS s).A.size < s.size /\ (apartS s).B.size < s.size at hz
 by_cases hop : (apartS s).is = 124 \/ (apartS s).is = 38
 ·obtain ⟨hA, hB⟩ := hz hop
  obtain ⟨g, rfl⟩ : ∃ g, f = g + 1 := ⟨f - 1, by omega⟩
  have hwa := fun w => HI.out g rfl (apartS s).A w (by omega) (by omega)
  have hwb := fun w => HI.out g rfl (apartS s).B w (by omega) (by omega)
  have HW : Hid (wayF (g + 1) s = (wayF g (apartS s).A && wayF g (apartS s).B)) := by
   show _ = _
   rw [wayF, if_neg (by omega)]
  clear HI hz hs hf hA hB
  unfold Pt.val at ha
  generalize (apartS s).A = A at *
  generalize (apartS s).B = B at *
  generalize (apartS s).is = i at *
  generalize wayF g A = x at *
  generalize wayF g B = y at *
  rcases hop with rfl | rfl
  all_goals
   cases x
   all_goals
    go_enter Tryz.func165, Tryz.ntmps165
    go_wp2_with (first | (go_at_call 199; refine (ha _).mono ?_; rintro e w1 ⟨rfl, hb1⟩; have hz1 := hb1.size) | (go_at_call 165; refine (hwa _).mono ?_; clear hwa; rintro e w2 ⟨rfl, hb2⟩; obtain ⟨hc2, hf2⟩ := bcell hb2; have hz2 := hb2.size; simp only [World.size_alloc] at hc2 hf2 hz2) | (go_at_call 165; refine (hwb _).mono ?_; rintro e w3 ⟨rfl, hb3⟩))
    go_ret
    exact ⟨ret_bool (by rw [HW.out]; rfl), ((hb1.alloc hb1.size _).trans (hb2.mono (by simp; omega))).trans (hb3.mono (by omega))⟩
 ·have HW : Hid (wayF f s = decide ((apartS s).is ≠ 120)) := by
   show _ = _
   cases f <;> rw [wayF, if_pos (by omega)]
  have h1 : ((apartS s).is != 124) = true := by simp; omega
  have h2 : ((apartS s).is != 38) = true := by simp; omega
  clear HI hz hop
  unfold Pt.val at ha
  generalize (apartS s).A = A at *
  generalize (apartS s).B = B at *
  generalize (apartS s).is = i at *
  go_enter Tryz.func165, Tryz.ntmps165
  go_wp2_with (go_at_call 199; refine (ha _).mono ?_; rintro e w1 ⟨rfl, hb1⟩; have hz1 := hb1.size)
  go_ret
  exact ⟨ret_bool (by rw [HW.out, Bool.eq_iff_iff]; simp), hb1.alloc hb1.size _⟩
theorem way_f : ∀ (f : Nat) (s : ByteArray) (w : World), s.size <= maxLen -> s.size <= f ->
  Calls Tryz.prog 165 #[.string s] w fun e w' => e = .returned (.bool (wayF f s)) /\ Below w.heap.size w w' := by
 intro f
 induction f with
 | zero => exact fun s w h1 h2 => way_body 0 (fun g hg => by omega) s w h1 h2
 | succ f ih =>
  refine fun s w h1 h2 => way_body (f + 1) ?_ s w h1 h2
  intro g hg
  have e : f = g := by omega
  subst e
  exact ih
theorem way_any (s : ByteArray) (w : World) (hs : s.size <= maxLen) : Calls Tryz.prog 165 #[.string s] w fun e w' => e = .returned (.bool (wayS s)) /\ Below w.heap.size w w' := way_f s.size s w hs (Nat.le_refl _)
def deepK (l : List UInt8) : Nat -> Int
 | 0 => 0
 | k + 1 => deepK l k + (if ((l.getD k 0).toNat : Int) = 40 then 1 else 0) - (if ((l.getD k 0).toNat : Int) = 41 then 1 else 0)
def tooDeep (l : List UInt8) : Nat -> Bool
 | 0 => false
 | k + 1 => tooDeep l k || decide (5 < deepK l (k + 1))
def readOf (s : ByteArray) : ByteArray := cutA s 61
def readWay (s : ByteArray) : ByteArray := cutZ s 61
def readS (s : ByteArray) : Bool := decide (s.size <= 200) && !tooDeep (readWay s).data.toList (readWay s).size && cutOk s 61 && cutOk (readOf s) 35 && nameS (cutA (readOf s) 35) && nameS (cutZ (readOf s) 35) && wayS (readWay s) && !decide (cutZ (readOf s) 35 = thisS)
theorem deepK_bd (l : List UInt8) (k : Nat) : -(k : Int) <= deepK l k /\ deepK l k <= k := by
 induction k with
 | zero => simp [deepK]
 | succ k ih => rw [deepK]; split <;> split <;> omega
theorem tooDeep_mono (l : List UInt8) {k n : Nat} (h : tooDeep l k = true) (hk : k <= n) : tooDeep l n = true := by
 induction n with
 | zero => have : k = 0 := by omega
           subst this; exact h
 | succ n ih =>
  by_cases e : k = n + 1
  ·subst e; exact h
  ·rw [tooDeep, ih (by omega)]; rfl
theorem read_any (s : ByteArray) (w : World) (hs : s.size <= maxLen) :
  Calls Tryz.prog 116 #[.string s] w fun e w' => ∃ A B, e = .returned (.tuple #[.agg #[.string A, .string B], .bool (readS s)]) /\ (readS s = true -> A = readOf s /\ B = readWay s) /\ Below w.heap.size w w' := by
 have HS : Hid (s.size <= maxLen) := hs
 unfold maxLen at hs
 by_cases hlong : 200 < s.size
 ·have hr : readS s = false := by unfold readS; rw [decide_eq_false (by omega)]; rfl
  rw [hr]
  clear hr
  go_enter Tryz.func116, Tryz.ntmps116
  go_wp2
  refine bodyPost_ret (v := .tuple #[.agg #[.string { data := #[] }, .string { data := #[] }], .bool false]) (by simp [results, Tryz.results116, go_sem]) rfl ⟨_, _, rfl, by simp, ?_⟩
  exact (Below.refl _ _).alloc (Nat.le_refl _) _
 ·obtain ⟨A1, Z1, O1, hA1, hZ1, hO1, hs1, hs2, hc1⟩ := cut_gen s 61 HS.out
  obtain ⟨A2, Z2, O2, hA2, hZ2, hO2, hs3, hs4, hc2⟩ := cut_gen A1 35 hs1
  have HR : Hid (readS s = (!tooDeep Z1.data.toList Z1.size && O1 && O2 && nameS A2 && nameS Z2 && wayS Z1 && !decide (Z2 = thisS))) := by
   show _ = _
   unfold readS readOf readWay
   rw [hA1, hZ1, hO1, hA2, hZ2, hO2, decide_eq_true (by omega : s.size <= 200), Bool.true_and]
  have HO : Hid (readOf s = A1 /\ readWay s = Z1) := ⟨hA1, hZ1⟩
  have hn1 := fun w => name_any A2 w hs3
  have hn2 := fun w => name_any Z2 w hs4
  have hwy := fun w => way_any Z1 w hs2
  have HZ1 : Hid (Z1.size <= maxLen) := hs2
  clear hA1 hZ1 hO1 hA2 hZ2 hO2 hs1 hs3 hs4
  unfold maxLen at hs2
  generalize nameS A2 = x at *
  generalize nameS Z2 = y at *
  generalize wayS Z1 = z at *
  go_enter Tryz.func116, Tryz.ntmps116
  go_wp2_with (first | (go_at_call 117; refine (hc1 _).mono ?_; clear hc1; rintro e w' ⟨rfl, ⟨n1, rfl⟩⟩) | (go_at_call 117; refine (hc2 _).mono ?_; rintro e w' ⟨rfl, ⟨n2, rfl⟩⟩) | (go_at_call 119; refine (hn1 _).mono ?_; clear hn1; rintro e w' ⟨rfl, rfl⟩) | (go_at_call 119; refine (hn2 _).mono ?_; rintro e w' ⟨rfl, rfl⟩))
  go_loop [12, 13] (fun d i => ∃ k : Nat, k <= Z1.size /\ i = .int .i64 k /\ d = .int .i64 (deepK Z1.data.toList k) /\ tooDeep Z1.data.toList k = false) (fun _ i => Z1.size - (intOf i).toNat)
  case atStart => exact ⟨0, by omega, rfl, rfl, rfl⟩
  case round =>
   obtain ⟨k, hk, rfl, rfl, hd⟩ := hrel
   have HD : Hid (tooDeep Z1.data.toList k = false) := hd
   clear hd
   by_cases hlt : k < Z1.size
   ·have hbd := deepK_bd Z1.data.toList k
    have HK : Hid (deepK Z1.data.toList (k + 1) = deepK Z1.data.toList k + (if byteAt Z1 k = 40 then 1 else 0) - (if byteAt Z1 k = 41 then 1 else 0)) := rfl
    have HG : Hid (tooDeep Z1.data.toList (k + 1) = (tooDeep Z1.data.toList k || decide (5 < deepK Z1.data.toList (k + 1)))) := rfl
    obtain ⟨c, hc⟩ : ∃ c : Int, (Z1[k].toNat : Int) = c := ⟨_, rfl⟩
    rw [byteAt_eq Z1 k hlt, hc] at HK
    generalize hq1 : deepK Z1.data.toList (k + 1) = d1 at HK HG
    have HQ1 : Hid (deepK Z1.data.toList (k + 1) = d1) := hq1
    clear hq1
    generalize deepK Z1.data.toList k = d at *
    by_cases h40 : c = 40
    ·subst h40
     have HK2 : Hid (d1 = d + 1) := by show _ = _; rw [HK.out]; simp
     by_cases h5 : 5 < d + 1
     ·have HX : Hid (readS s = false) := by
       show _ = _
       rw [HR.out, tooDeep_mono _ (k := k + 1) (by rw [HG.out, HK2.out]; simp; omega) (by omega)]; simp
      go_wp2
      refine bodyPost_ret (v := .tuple #[.agg #[.string { data := #[] }, .string { data := #[] }], .bool false]) (by simp [results, Tryz.results116, go_sem]) rfl ⟨_, _, by rw [HX.out], by rw [HX.out]; simp, ?_⟩
      repeat (first | exact Below.refl _ _ | refine Below.setCell ?_ (by first | exact Nat.le_refl _ | (simp; done) | (simp; omega)) _ | refine below_drewN ?_ _ | refine Below.drew ?_ | refine Below.alloc ?_ (by first | exact Nat.le_refl _ | (simp; done) | (simp; omega)) _)
     ·go_wp2
      go_round
      case rel => exact ⟨k + 1, by omega, by go_num, by rw [HQ1.out, HK2.out], by rw [HG.out, HD.out, HK2.out]; simp; omega⟩
      case measure => simp [intOf]; omega
    ·by_cases h41 : c = 41
     ·subst h41
      have HK2 : Hid (d1 = d - 1) := by show _ = _; rw [HK.out]; simp
      by_cases h5 : 5 < d - 1
      ·have HX : Hid (readS s = false) := by
        show _ = _
        rw [HR.out, tooDeep_mono _ (k := k + 1) (by rw [HG.out, HK2.out]; simp; omega) (by omega)]; simp
       go_wp2
       refine bodyPost_ret (v := .tuple #[.agg #[.string { data := #[] }, .string { data := #[] }], .bool false]) (by simp [results, Tryz.results116, go_sem]) rfl ⟨_, _, by rw [HX.out], by rw [HX.out]; simp, ?_⟩
       repeat (first | exact Below.refl _ _ | refine Below.setCell ?_ (by first | exact Nat.le_refl _ | (simp; done) | (simp; omega)) _ | refine below_drewN ?_ _ | refine Below.drew ?_ | refine Below.alloc ?_ (by first | exact Nat.le_refl _ | (simp; done) | (simp; omega)) _)
      ·go_wp2
       go_round
       case rel => exact ⟨k + 1, by omega, by go_num, by rw [HQ1.out, HK2.out], by rw [HG.out, HD.out, HK2.out]; simp; omega⟩
       case measure => simp [intOf]; omega
     ·have HK2 : Hid (d1 = d) := by show _ = _; rw [HK.out]; simp [h40, h41]
      have h40b : (c == 40) = false := by simpa using h40
      have h41b : (c == 41) = false := by simpa using h41
      by_cases h5 : 5 < d
      ·have HX : Hid (readS s = false) := by
        show _ = _
        rw [HR.out, tooDeep_mono _ (k := k + 1) (by rw [HG.out, HK2.out]; simp; omega) (by omega)]; simp
       go_wp2
       refine bodyPost_ret (v := .tuple #[.agg #[.string { data := #[] }, .string { data := #[] }], .bool false]) (by simp [results, Tryz.results116, go_sem]) rfl ⟨_, _, by rw [HX.out], by rw [HX.out]; simp, ?_⟩
       repeat (first | exact Below.refl _ _ | refine Below.setCell ?_ (by first | exact Nat.le_refl _ | (simp; done) | (simp; omega)) _ | refine below_drewN ?_ _ | refine Below.drew ?_ | refine Below.alloc ?_ (by first | exact Nat.le_refl _ | (simp; done) | (simp; omega)) _)
      ·go_wp2
       go_round
       case rel => exact ⟨k + 1, by omega, by go_num, by rw [HQ1.out, HK2.out], by rw [HG.out, HD.out, HK2.out]; simp; omega⟩
       case measure => simp [intOf]; omega
   ·obtain rfl : k = Z1.size := by omega
    rw [HD.out] at HR
    clear hs2 hk hlt
    by_cases hth : Z2 = thisS
    ·have hb : (Z2.toList == [116, 104, 105, 115]) = true := by rw [← thisS_list]; exact eq_this Z2 thisS hth
     rw [decide_eq_true hth] at HR
     clear hth
     cases O1
     ·go_wp2_with (go_at_call 165; refine (hwy _).mono ?_; rintro e w3 ⟨rfl, hb3⟩; obtain ⟨hc3, hf3⟩ := bcell hb3; have hz3 := hb3.size; simp only [World.size_alloc, World.heap_drewN] at hc3 hf3 hz3)
      refine bodyPost_ret (v := .tuple #[.agg #[.string A1, .string Z1], .bool false]) (by simp [results, Tryz.results116, go_sem, hc3]) rfl ⟨A1, Z1, ?_, fun _ => ⟨HO.out.1.symm, HO.out.2.symm⟩, ?_⟩
      ·rw [HR.out]; simp
      ·refine Below.setCell ?_ (by simp) _
       refine Below.setCell ?_ (by simp) _
       refine Below.trans ?_ (hb3.mono (by simp))
       repeat (first | exact Below.refl _ _ | refine Below.setCell ?_ (by first | exact Nat.le_refl _ | (simp; done) | (simp; omega)) _ | refine below_drewN ?_ _ | refine Below.drew ?_ | refine Below.alloc ?_ (by first | exact Nat.le_refl _ | (simp; done) | (simp; omega)) _)
     ·cases O2
      ·go_wp2_with (go_at_call 165; refine (hwy _).mono ?_; rintro e w3 ⟨rfl, hb3⟩; obtain ⟨hc3, hf3⟩ := bcell hb3; have hz3 := hb3.size; simp only [World.size_alloc, World.heap_drewN] at hc3 hf3 hz3)
       refine bodyPost_ret (v := .tuple #[.agg #[.string A1, .string Z1], .bool false]) (by simp [results, Tryz.results116, go_sem, hc3]) rfl ⟨A1, Z1, ?_, fun _ => ⟨HO.out.1.symm, HO.out.2.symm⟩, ?_⟩
       ·rw [HR.out]; simp
       ·refine Below.setCell ?_ (by simp) _
        refine Below.setCell ?_ (by simp) _
        refine Below.trans ?_ (hb3.mono (by simp))
        repeat (first | exact Below.refl _ _ | refine Below.setCell ?_ (by first | exact Nat.le_refl _ | (simp; done) | (simp; omega)) _ | refine below_drewN ?_ _ | refine Below.drew ?_ | refine Below.alloc ?_ (by first | exact Nat.le_refl _ | (simp; done) | (simp; omega)) _)
      ·cases x
       ·go_wp2_with (go_at_call 165; refine (hwy _).mono ?_; rintro e w3 ⟨rfl, hb3⟩; obtain ⟨hc3, hf3⟩ := bcell hb3; have hz3 := hb3.size; simp only [World.size_alloc, World.heap_drewN] at hc3 hf3 hz3)
        refine bodyPost_ret (v := .tuple #[.agg #[.string A1, .string Z1], .bool false]) (by simp [results, Tryz.results116, go_sem, hc3]) rfl ⟨A1, Z1, ?_, fun _ => ⟨HO.out.1.symm, HO.out.2.symm⟩, ?_⟩
        ·rw [HR.out]; simp
        ·refine Below.setCell ?_ (by simp) _
         refine Below.setCell ?_ (by simp) _
         refine Below.trans ?_ (hb3.mono (by simp))
         repeat (first | exact Below.refl _ _ | refine Below.setCell ?_ (by first | exact Nat.le_refl _ | (simp; done) | (simp; omega)) _ | refine below_drewN ?_ _ | refine Below.drew ?_ | refine Below.alloc ?_ (by first | exact Nat.le_refl _ | (simp; done) | (simp; omega)) _)
       ·cases y
        ·go_wp2_with (go_at_call 165; refine (hwy _).mono ?_; rintro e w3 ⟨rfl, hb3⟩; obtain ⟨hc3, hf3⟩ := bcell hb3; have hz3 := hb3.size; simp only [World.size_alloc, World.heap_drewN] at hc3 hf3 hz3)
         refine bodyPost_ret (v := .tuple #[.agg #[.string A1, .string Z1], .bool false]) (by simp [results, Tryz.results116, go_sem, hc3]) rfl ⟨A1, Z1, ?_, fun _ => ⟨HO.out.1.symm, HO.out.2.symm⟩, ?_⟩
         ·rw [HR.out]; simp
         ·refine Below.setCell ?_ (by simp) _
          refine Below.setCell ?_ (by simp) _
          refine Below.trans ?_ (hb3.mono (by simp))
          repeat (first | exact Below.refl _ _ | refine Below.setCell ?_ (by first | exact Nat.le_refl _ | (simp; done) | (simp; omega)) _ | refine below_drewN ?_ _ | refine Below.drew ?_ | refine Below.alloc ?_ (by first | exact Nat.le_refl _ | (simp; done) | (simp; omega)) _)
        ·cases z
         ·go_wp2_with (go_at_call 165; refine (hwy _).mono ?_; rintro e w3 ⟨rfl, hb3⟩; obtain ⟨hc3, hf3⟩ := bcell hb3; have hz3 := hb3.size; simp only [World.size_alloc, World.heap_drewN] at hc3 hf3 hz3)
          refine bodyPost_ret (v := .tuple #[.agg #[.string A1, .string Z1], .bool false]) (by simp [results, Tryz.results116, go_sem, hc3]) rfl ⟨A1, Z1, ?_, fun _ => ⟨HO.out.1.symm, HO.out.2.symm⟩, ?_⟩
          ·rw [HR.out]; simp
          ·refine Below.setCell ?_ (by simp) _
           refine Below.setCell ?_ (by simp) _
           refine Below.trans ?_ (hb3.mono (by simp))
           repeat (first | exact Below.refl _ _ | refine Below.setCell ?_ (by first | exact Nat.le_refl _ | (simp; done) | (simp; omega)) _ | refine below_drewN ?_ _ | refine Below.drew ?_ | refine Below.alloc ?_ (by first | exact Nat.le_refl _ | (simp; done) | (simp; omega)) _)
         ·go_wp2_with (go_at_call 165; refine (hwy _).mono ?_; rintro e w3 ⟨rfl, hb3⟩; obtain ⟨hc3, hf3⟩ := bcell hb3; have hz3 := hb3.size; simp only [World.size_alloc, World.heap_drewN] at hc3 hf3 hz3)
          refine bodyPost_ret (v := .tuple #[.agg #[.string A1, .string Z1], .bool false]) (by simp [results, Tryz.results116, go_sem, hc3]) rfl ⟨A1, Z1, ?_, fun _ => ⟨HO.out.1.symm, HO.out.2.symm⟩, ?_⟩
          ·rw [HR.out]; simp
          ·refine Below.setCell ?_ (by simp) _
           refine Below.setCell ?_ (by simp) _
           refine Below.trans ?_ (hb3.mono (by simp))
           repeat (first | exact Below.refl _ _ | refine Below.setCell ?_ (by first | exact Nat.le_refl _ | (simp; done) | (simp; omega)) _ | refine below_drewN ?_ _ | refine Below.drew ?_ | refine Below.alloc ?_ (by first | exact Nat.le_refl _ | (simp; done) | (simp; omega)) _)
    ·have hb : (Z2.toList == [116, 104, 105, 115]) = false := by rw [← thisS_list]; exact ne_this Z2 thisS hth
     rw [decide_eq_false hth] at HR
     clear hth
     cases O1
     ·go_wp2_with (go_at_call 165; refine (hwy _).mono ?_; rintro e w3 ⟨rfl, hb3⟩; obtain ⟨hc3, hf3⟩ := bcell hb3; have hz3 := hb3.size; simp only [World.size_alloc, World.heap_drewN] at hc3 hf3 hz3)
      refine bodyPost_ret (v := .tuple #[.agg #[.string A1, .string Z1], .bool false]) (by simp [results, Tryz.results116, go_sem, hc3]) rfl ⟨A1, Z1, ?_, fun _ => ⟨HO.out.1.symm, HO.out.2.symm⟩, ?_⟩
      ·rw [HR.out]; simp
      ·refine Below.setCell ?_ (by simp) _
       refine Below.setCell ?_ (by simp) _
       refine Below.trans ?_ (hb3.mono (by simp))
       repeat (first | exact Below.refl _ _ | refine Below.setCell ?_ (by first | exact Nat.le_refl _ | (simp; done) | (simp; omega)) _ | refine below_drewN ?_ _ | refine Below.drew ?_ | refine Below.alloc ?_ (by first | exact Nat.le_refl _ | (simp; done) | (simp; omega)) _)
     ·cases O2
      ·go_wp2_with (go_at_call 165; refine (hwy _).mono ?_; rintro e w3 ⟨rfl, hb3⟩; obtain ⟨hc3, hf3⟩ := bcell hb3; have hz3 := hb3.size; simp only [World.size_alloc, World.heap_drewN] at hc3 hf3 hz3)
       refine bodyPost_ret (v := .tuple #[.agg #[.string A1, .string Z1], .bool false]) (by simp [results, Tryz.results116, go_sem, hc3]) rfl ⟨A1, Z1, ?_, fun _ => ⟨HO.out.1.symm, HO.out.2.symm⟩, ?_⟩
       ·rw [HR.out]; simp
       ·refine Below.setCell ?_ (by simp) _
        refine Below.setCell ?_ (by simp) _
        refine Below.trans ?_ (hb3.mono (by simp))
        repeat (first | exact Below.refl _ _ | refine Below.setCell ?_ (by first | exact Nat.le_refl _ | (simp; done) | (simp; omega)) _ | refine below_drewN ?_ _ | refine Below.drew ?_ | refine Below.alloc ?_ (by first | exact Nat.le_refl _ | (simp; done) | (simp; omega)) _)
      ·cases x
       ·go_wp2_with (go_at_call 165; refine (hwy _).mono ?_; rintro e w3 ⟨rfl, hb3⟩; obtain ⟨hc3, hf3⟩ := bcell hb3; have hz3 := hb3.size; simp only [World.size_alloc, World.heap_drewN] at hc3 hf3 hz3)
        refine bodyPost_ret (v := .tuple #[.agg #[.string A1, .string Z1], .bool false]) (by simp [results, Tryz.results116, go_sem, hc3]) rfl ⟨A1, Z1, ?_, fun _ => ⟨HO.out.1.symm, HO.out.2.symm⟩, ?_⟩
        ·rw [HR.out]; simp
        ·refine Below.setCell ?_ (by simp) _
         refine Below.setCell ?_ (by simp) _
         refine Below.trans ?_ (hb3.mono (by simp))
         repeat (first | exact Below.refl _ _ | refine Below.setCell ?_ (by first | exact Nat.le_refl _ | (simp; done) | (simp; omega)) _ | refine below_drewN ?_ _ | refine Below.drew ?_ | refine Below.alloc ?_ (by first | exact Nat.le_refl _ | (simp; done) | (simp; omega)) _)
       ·cases y
        ·go_wp2_with (go_at_call 165; refine (hwy _).mono ?_; rintro e w3 ⟨rfl, hb3⟩; obtain ⟨hc3, hf3⟩ := bcell hb3; have hz3 := hb3.size; simp only [World.size_alloc, World.heap_drewN] at hc3 hf3 hz3)
         refine bodyPost_ret (v := .tuple #[.agg #[.string A1, .string Z1], .bool false]) (by simp [results, Tryz.results116, go_sem, hc3]) rfl ⟨A1, Z1, ?_, fun _ => ⟨HO.out.1.symm, HO.out.2.symm⟩, ?_⟩
         ·rw [HR.out]; simp
         ·refine Below.setCell ?_ (by simp) _
          refine Below.setCell ?_ (by simp) _
          refine Below.trans ?_ (hb3.mono (by simp))
          repeat (first | exact Below.refl _ _ | refine Below.setCell ?_ (by first | exact Nat.le_refl _ | (simp; done) | (simp; omega)) _ | refine below_drewN ?_ _ | refine Below.drew ?_ | refine Below.alloc ?_ (by first | exact Nat.le_refl _ | (simp; done) | (simp; omega)) _)
        ·cases z
         ·go_wp2_with (go_at_call 165; refine (hwy _).mono ?_; rintro e w3 ⟨rfl, hb3⟩; obtain ⟨hc3, hf3⟩ := bcell hb3; have hz3 := hb3.size; simp only [World.size_alloc, World.heap_drewN] at hc3 hf3 hz3)
          refine bodyPost_ret (v := .tuple #[.agg #[.string A1, .string Z1], .bool false]) (by simp [results, Tryz.results116, go_sem, hc3]) rfl ⟨A1, Z1, ?_, fun _ => ⟨HO.out.1.symm, HO.out.2.symm⟩, ?_⟩
          ·rw [HR.out]; simp
          ·refine Below.setCell ?_ (by simp) _
           refine Below.setCell ?_ (by simp) _
           refine Below.trans ?_ (hb3.mono (by simp))
           repeat (first | exact Below.refl _ _ | refine Below.setCell ?_ (by first | exact Nat.le_refl _ | (simp; done) | (simp; omega)) _ | refine below_drewN ?_ _ | refine Below.drew ?_ | refine Below.alloc ?_ (by first | exact Nat.le_refl _ | (simp; done) | (simp; omega)) _)
         ·go_wp2_with (go_at_call 165; refine (hwy _).mono ?_; rintro e w3 ⟨rfl, hb3⟩; obtain ⟨hc3, hf3⟩ := bcell hb3; have hz3 := hb3.size; simp only [World.size_alloc, World.heap_drewN] at hc3 hf3 hz3)
          refine bodyPost_ret (v := .tuple #[.agg #[.string A1, .string Z1], .bool true]) (by simp [results, Tryz.results116, go_sem, hc3]) rfl ⟨A1, Z1, ?_, fun _ => ⟨HO.out.1.symm, HO.out.2.symm⟩, ?_⟩
          ·rw [HR.out]; simp
          ·refine Below.setCell ?_ (by simp) _
           refine Below.setCell ?_ (by simp) _
           refine Below.trans ?_ (hb3.mono (by simp))
           repeat (first | exact Below.refl _ _ | refine Below.setCell ?_ (by first | exact Nat.le_refl _ | (simp; done) | (simp; omega)) _ | refine below_drewN ?_ _ | refine Below.drew ?_ | refine Below.alloc ?_ (by first | exact Nat.le_refl _ | (simp; done) | (simp; omega)) _)
end Go.Proofs.YtalmoiogbdahcaaGreat
