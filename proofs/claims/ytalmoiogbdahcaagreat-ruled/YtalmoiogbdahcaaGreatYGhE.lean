import Derived.Test.YtalmoiogbdahcaaGreatYGramC
import Derived.Test.YtalmoiogbdahcaaGreatYRefE
import Derived.Test.YtalmoiogbdahcaaGreatYLibC
import Derived.Test.YtalmoiogbdahcaaGreatYRefI
import Derived.Test.YtalmoiogbdahcaaGreatYLibF
namespace Go.Proofs.YtalmoiogbdahcaaGreat
set_option maxRecDepth 100000
set_option maxHeartbeats 8000000
open Go.RowKit
theorem owns_cells {w : World} {base g cap : Nat} {ys : List ByteArray} (h : w.ownsRow base 9 1 (.slice (some ⟨g, 0, none⟩) ys.length cap) ys.length (strV ys)) : ∀ i x, ys[i]? = some x -> w.cell? ⟨g, 0 + i, none⟩ = some (.string x) := by
 rcases owns_strs h with ⟨hv, -⟩ | ⟨b, off, cap', hv, hc⟩
 ·cases hv
 ·simp only [Value.slice.injEq, Option.some.injEq, Addr.mk.injEq] at hv
  obtain ⟨⟨rfl, rfl, -⟩, -, -⟩ := hv
  exact hc
theorem place_one {xs : List ByteArray} {t : ByteArray} {i j : Nat} (h : Place xs t i) (g : Place xs t j) : i = j := by
 have key : ∀ {i j : Nat}, Place xs t i -> Place xs t j -> ¬ i < j := by
  intro i j h g hij
  have hil : i < xs.length := by have := g.1; omega
  have hx : xs[i]? = some xs[i] := List.getElem?_eq_getElem hil
  have h1 := h.2.2 i _ (Nat.le_refl _) hx
  have h2 := g.2.1 i _ hij hx
  rw [h1] at h2; cases h2
 have := key h g
 have := key g h
 omega
theorem search_own {w : World} {base : Nat} {o : Value} {ys : List ByteArray} (h : w.ownsRow base 9 1 o ys.length (strV ys)) (hs : Sorted ys) (hl : ys.length <= 1000) {t : ByteArray} {i : Nat} (hp : Place ys t i) :
  Calls Tryz.prog 100 #[o, .string t] w fun e w' => e = .returned (.tuple #[.int .i64 i, .bool (decide (ys[i]? = some t))]) /\ w' = w := by
 rcases h.2 with ⟨rfl, h0⟩ | ⟨g, cap, cur, rfl, -⟩
 ·have hys : ys = [] := List.eq_nil_of_length_eq_zero h0
  subst hys
  have hi : i = 0 := by have := hp.1; simpa using this
  subst hi
  refine (search_nil t w).mono ?_
  rintro e w' ⟨rfl, hw⟩
  exact ⟨by simp, hw⟩
 ·refine (search_any g 0 cap ys t w (owns_cells h) hl (sorted_mono hs t)).mono ?_
  rintro e w' ⟨⟨j, rfl, hj⟩, hw⟩
  rw [place_one hj hp]
  exact ⟨rfl, hw⟩
structure CInv (w : World) (now xs : List ByteArray) (wr : World) (k : Nat) (o : Value) (ys : List ByteArray) : Prop where
 own : wr.ownsRow w.heap.size 9 1 o ys.length (strV ys)
 sorted : Sorted ys
 is : ys = (xs.take k).foldl doneS now
 len : ys.length <= 50 + k
 below : Below w.heap.size w wr
theorem CInv.step {w : World} {now xs : List ByteArray} {wr : World} {k : Nat} {o : Value} {ys : List ByteArray} (h : CInv w now xs wr k o ys) {x : ByteArray} (hx : xs[k]? = some x) {i : Nat} (hp : Place ys (x.extract 1 x.size) i) {wr' : World} {o' : Value} {zs : List ByteArray}
  (hz : zs = doneS ys x) (hown : wr'.ownsRow w.heap.size 9 1 o' zs.length (strV zs)) (hb : Below w.heap.size w wr') : CInv w now xs wr' (k + 1) o' zs := by
 refine ⟨hown, ?_, ?_, ?_, hb⟩
 ·rw [hz]; exact with_sorted h.sorted hp _
 ·obtain ⟨hk, he⟩ := List.getElem?_eq_some_iff.1 hx
  rw [List.take_succ_eq_append_getElem hk, he, List.foldl_append, ← h.is, hz]; rfl
 ·have := withL_len ys (x.extract 1 x.size) (decide (byteAt x 0 = 43))
  have h2 := h.len
  rw [hz]; unfold doneS; omega
theorem changed_any (tv : Value) (now xs : List ByteArray) (bb off cap : Nat) (w : World) (hnow : StrsAt w tv now) (hs : Sorted now) (hnl : now.length <= 50)
  (hxs : ∀ i x, xs[i]? = some x -> w.cell? ⟨bb, off + i, none⟩ = some (.string x)) (hxn : xs.length <= 20) (hsz : ∀ x ∈ xs, x.size <= 140737488355328) (hsign : ∀ x ∈ xs, x.size ≠ 0 /\ (byteAt x 0 = 43 \/ byteAt x 0 = 45)) :
  Calls Tryz.prog 54 #[tv, .slice (some ⟨bb, off, none⟩) xs.length cap] w fun e w' => ∃ v, e = .returned v /\ w'.ownsRow w.heap.size 9 1 v (xs.foldl doneS now).length (strV (xs.foldl doneS now)) /\ Below w.heap.size w w' := by
 have hcl : Calls Tryz.prog 49 #[tv] w fun e w' => ∃ v, e = .returned v /\ CInv w now xs w' 0 v now := by
  rcases hnow with ⟨rfl, rfl⟩ | ⟨b0, o0, c0, rfl, hc0⟩
  ·refine (clone_nil w).mono ?_
   rintro e w' ⟨rfl, rfl⟩
   exact ⟨_, rfl, World.ownsRow_nil _ _ _ _, hs, rfl, by omega, Below.refl _ _⟩
  ·refine (clone_any b0 o0 c0 now w hc0 (by omega)).mono ?_
   rintro e w' ⟨g, c, rfl, ho, hb⟩
   exact ⟨_, rfl, ho, hs, rfl, by omega, hb⟩
 clear hnow hs
 obtain ⟨n, hn⟩ : ∃ n, xs.length = n := ⟨_, rfl⟩
 have HX : Hid (xs.length = n) := hn
 rw [hn] at hxn ⊢
 clear hn
 go_enter Tryz.func54, Tryz.ntmps54
 go_wp2_with (go_at_call 49; refine hcl.mono ?_; clear hcl; rintro e w1 ⟨v1, rfl, hI1⟩)
 go_loopw [5, 16] (fun o i wr => ∃ (k : Nat) (ys : List ByteArray) (o' : Value), o' = o /\ k <= n /\ i = .int .i64 k /\ CInv w now xs wr k o' ys) (fun _ i _ => n - (intOf i).toNat)
 case atStart => exact ⟨0, now, _, rfl, Nat.zero_le _, rfl, hI1⟩
 case round =>
  obtain ⟨k, ys, o, rfl, hk, rfl, hI⟩ := hrel
  clear hI1
  have HI : Hid (CInv w now xs wr k o ys) := hI
  clear hI
  by_cases hlt : k < n
  ·have hkx : k < xs.length := by have := HX.out; omega
   obtain ⟨x, hx⟩ : ∃ x, xs[k] = x := ⟨_, rfl⟩
   have hkk : xs[k]? = some x := by rw [List.getElem?_eq_getElem hkx, hx]
   have hc0 := hxs k x hkk
   have hck : wr.cell? ⟨bb, off + k, none⟩ = some (.string x) := by rw [← hc0]; exact HI.out.below.cell (cell_lt hc0)
   have hxm : x ∈ xs := List.mem_of_getElem? hkk
   have hx0 : 1 <= x.size := by have := (hsign x hxm).1; omega
   have hxs2 : x.size <= 140737488355328 := hsz x hxm
   have HSG : Hid (byteAt x 0 = 43 \/ byteAt x 0 = 45) := (hsign x hxm).2
   have HKK : Hid (xs[k]? = some x) := hkk
   have HTS : Hid ((x.extract 1 x.size).size <= 140737488355328) := by show _ <= _; simp; omega
   have HLN : Hid (ys.length <= 70) := by have := HI.out.len; show _ <= _; omega
   clear hx hkk hc0 hxm hkx hxs hsz hsign
   have hidx : ∀ w, (Instr.index 9 (.string x) (.int .i64 0)).run Tryz.prog w = .ok (.int .u8 (byteAt x 0)) w := by
    intro w
    rw [run_index_string w _ x _ _ Tryz.underlying9, dif_pos (by omega), byteAt_eq x 0 (by omega)]; rfl
   have HD : Hid (doneS ys x = withL ys (x.extract 1 x.size) (decide (byteAt x 0 = 43))) := rfl
   have HCL : Hid (∀ w1, Calls Tryz.prog 102 #[.string (x.extract 1 x.size)] w1 fun e w' => e = .returned (.string (x.extract 1 x.size)) /\ Below w1.heap.size w1 w') := fun w1 => stringsClone_any _ w1 HTS.out
   obtain ⟨i, hp⟩ := place_ex HI.out.sorted (x.extract 1 x.size)
   have HP : Hid (Place ys (x.extract 1 x.size) i) := hp
   have HBS : Hid (∀ w1, Below wr.heap.size wr w1 -> Calls Tryz.prog 100 #[o, .string (x.extract 1 x.size)] w1 fun e w' => e = .returned (.tuple #[.int .i64 i, .bool (decide (ys[i]? = some (x.extract 1 x.size)))]) /\ w' = w1) := fun w1 hb => search_own (owns_below HI.out.own hb) HI.out.sorted (by have := HLN.out; omega) HP.out
   have hil : i <= 70 := by have := hp.1; have := HLN.out; omega
   have HWP := with_place HI.out.sorted hp (decide (byteAt x 0 = 43))
   rw [← HD.out] at HWP
   have HWP' : Hid (doneS ys x = _) := HWP
   clear HWP hp HD
   by_cases hth : ys[i]? = some (x.extract 1 x.size)
   ·rw [decide_eq_true hth] at HBS
    rw [if_pos hth] at HWP'
    rcases HSG.out with hc | hc
    ·rw [hc] at hidx HWP'
     go_wp2
     go_region
     go_wp2_with (go_at_call 100; refine (HBS.out _ (by repeat (first | exact Below.refl _ _ | refine Below.setCell ?_ (by first | exact Nat.le_refl _ | (simp; done) | (simp; omega)) _ | refine below_drewN ?_ _ | refine Below.drew ?_ | refine Below.alloc ?_ (by first | exact Nat.le_refl _ | (simp; done) | (simp; omega)) _))).mono ?_; rintro e w2 ⟨rfl, hw2⟩; subst w2)
     go_roundw
     case rel => exact ⟨k + 1, ys, o, rfl, by omega, by go_num, HI.out.step HKK.out HP.out (by rw [HWP'.out]; simp) (owns_below HI.out.own (by repeat (first | exact Below.refl _ _ | refine Below.setCell ?_ (by first | exact Nat.le_refl _ | (simp; done) | (simp; omega)) _ | refine below_drewN ?_ _ | refine Below.drew ?_ | refine Below.alloc ?_ (by first | exact Nat.le_refl _ | (simp; done) | (simp; omega)) _))) (HI.out.below.drew)⟩
     case measure => simp [intOf]; omega
    ·rw [hc] at hidx HWP'
     have hiy : i < ys.length := (List.getElem?_eq_some_iff.1 hth).1
     rcases HI.out.own.2 with ⟨rfl, h0⟩ | ⟨g, cp, cur, rfl, -, -, -, -, -, -⟩
     ·omega
     ·have HDL : Hid (∀ w1, Below wr.heap.size wr w1 -> Calls Tryz.prog 103 #[.slice (some ⟨g, 0, none⟩) ys.length cp, .int .i64 i, .int .i64 ((i : Int) + 1)] w1 fun e w' => e = .returned (.slice (some ⟨g, 0, none⟩) (ys.length - 1) cp) /\ w'.ownsRow w.heap.size 9 1 (.slice (some ⟨g, 0, none⟩) (ys.length - 1) cp) (ys.length - 1) (strV (delL ys i)) /\ w1.grownBy w' (some g)) := fun w1 hb => delete_any w1 w.heap.size g cp ys i hiy (owns_below HI.out.own hb)
      have HGL : Hid (w.heap.size <= g) := (owns_lt HI.out.own g rfl).2.1
      have HLD : Hid ((delL ys i).length = ys.length - 1) := by show _ = _; unfold delL; simp; omega
      clear hiy hth
      go_wp2
      go_region
      go_wp2_with (first | (go_at_call 100; refine (HBS.out _ (by repeat (first | exact Below.refl _ _ | refine Below.setCell ?_ (by first | exact Nat.le_refl _ | (simp; done) | (simp; omega)) _ | refine below_drewN ?_ _ | refine Below.drew ?_ | refine Below.alloc ?_ (by first | exact Nat.le_refl _ | (simp; done) | (simp; omega)) _))).mono ?_; rintro e w2 ⟨rfl, hw2⟩; subst w2) | (go_at_call 103; refine (HDL.out _ (by repeat (first | exact Below.refl _ _ | refine Below.setCell ?_ (by first | exact Nat.le_refl _ | (simp; done) | (simp; omega)) _ | refine below_drewN ?_ _ | refine Below.drew ?_ | refine Below.alloc ?_ (by first | exact Nat.le_refl _ | (simp; done) | (simp; omega)) _))).mono ?_; rintro e w3 ⟨rfl, ho3, hg3⟩; have HO3 : Hid (w3.ownsRow w.heap.size 9 1 (.slice (some ⟨g, 0, none⟩) (ys.length - 1) cp) (ys.length - 1) (strV (delL ys i))) := ho3; clear ho3))
      go_roundw
      case rel => exact ⟨k + 1, delL ys i, _, rfl, by omega, by go_num, HI.out.step HKK.out HP.out (by rw [HWP'.out]; simp) (by rw [HLD.out]; exact HO3.out) (HI.out.below.drew.grown hg3 HI.out.below.size (fun j hj => by injection hj with hj; rw [← hj]; exact HGL.out))⟩
      case measure => simp [intOf]; omega
   ·rw [decide_eq_false hth] at HBS
    rw [if_neg hth] at HWP'
    rcases HSG.out with hc | hc
    ·rw [hc] at hidx HWP'
     have HIN : Hid (∀ w1 vb, Below wr.heap.size wr w1 -> wr.heap.size <= vb -> w1.heap[vb]? = some (.cells [Value.string (x.extract 1 x.size)].toArray 9 (0, 0)) -> Calls Tryz.prog 101 #[o, .int .i64 i, .slice (some ⟨vb, 0, none⟩) 1 1] w1 (IPost w.heap.size o ys i (x.extract 1 x.size) w1)) := fun w1 vb hb hvb hc => insert_any w1 w.heap.size o ys i HP.out.1 _ vb (owns_below HI.out.own hb) (by have := HLN.out; omega) (Nat.le_trans HI.out.below.size hb.size) hc (fun e => by have := (owns_lt HI.out.own vb e).1; omega)
     have HOB : Hid (∀ j, o.ownBlock = some j -> w.heap.size <= j) := fun j hj => (owns_lt HI.out.own j hj).2.1
     clear hth
     go_wp2
     go_region
     go_wp2_with (first | (go_at_call 100; refine (HBS.out _ (by repeat (first | exact Below.refl _ _ | refine Below.setCell ?_ (by first | exact Nat.le_refl _ | (simp; done) | (simp; omega)) _ | refine below_drewN ?_ _ | refine Below.drew ?_ | refine Below.alloc ?_ (by first | exact Nat.le_refl _ | (simp; done) | (simp; omega)) _))).mono ?_; rintro e w2 ⟨rfl, hw2⟩; subst w2) | (go_at_call 102; refine (HCL.out _).mono ?_; rintro e w3 ⟨rfl, hb3⟩; have hbb : Below wr.heap.size wr w3 := Below.trans (by repeat (first | exact Below.refl _ _ | refine Below.setCell ?_ (by first | exact Nat.le_refl _ | (simp; done) | (simp; omega)) _ | refine below_drewN ?_ _ | refine Below.drew ?_ | refine Below.alloc ?_ (by first | exact Nat.le_refl _ | (simp; done) | (simp; omega)) _)) (hb3.mono (by simp))) | (go_at_call 101; refine (HIN.out _ w3.heap.size (hbb.alloc hbb.size _) hbb.size (alloc_new w3 [Value.string (x.extract 1 x.size)] _)).mono ?_; rintro e w4 ⟨g4, c4, rfl, ho4, hg4⟩; have HO4 : Hid (w4.ownsRow w.heap.size 9 1 (.slice (some ⟨g4, 0, none⟩) (ys.length + 1) c4) (ys.length + 1) (strV (insL ys i (x.extract 1 x.size)))) := ho4; clear ho4))
     go_roundw
     case rel => exact ⟨k + 1, insL ys i (x.extract 1 x.size), _, rfl, by omega, by go_num, HI.out.step HKK.out HP.out (by rw [HWP'.out]; simp) (by rw [insL_len]; exact HO4.out) (((HI.out.below.trans (hbb.mono HI.out.below.size)).alloc (Nat.le_trans HI.out.below.size hbb.size) _).grown hg4 (by simp; exact Nat.le_succ_of_le (Nat.le_trans HI.out.below.size hbb.size)) HOB.out)⟩
     case measure => simp [intOf]; omega
    ·rw [hc] at hidx HWP'
     clear hth
     go_wp2
     go_region
     go_wp2_with (go_at_call 100; refine (HBS.out _ (by repeat (first | exact Below.refl _ _ | refine Below.setCell ?_ (by first | exact Nat.le_refl _ | (simp; done) | (simp; omega)) _ | refine below_drewN ?_ _ | refine Below.drew ?_ | refine Below.alloc ?_ (by first | exact Nat.le_refl _ | (simp; done) | (simp; omega)) _))).mono ?_; rintro e w2 ⟨rfl, hw2⟩; subst w2)
     go_roundw
     case rel => exact ⟨k + 1, ys, o, rfl, by omega, by go_num, HI.out.step HKK.out HP.out (by rw [HWP'.out]; simp) (owns_below HI.out.own (by repeat (first | exact Below.refl _ _ | refine Below.setCell ?_ (by first | exact Nat.le_refl _ | (simp; done) | (simp; omega)) _ | refine below_drewN ?_ _ | refine Below.drew ?_ | refine Below.alloc ?_ (by first | exact Nat.le_refl _ | (simp; done) | (simp; omega)) _))) (HI.out.below.drew)⟩
     case measure => simp [intOf]; omega
  ·obtain rfl : k = n := by omega
   go_wp2
   go_ret
   have e : xs.foldl doneS now = ys := by
    have := HI.out.is
    rw [List.take_of_length_le (by have := HX.out; omega)] at this
    exact this.symm
   rw [e]
   exact ⟨_, rfl, HI.out.own, HI.out.below⟩
def subjStep (node : ByteArray) (ys : List ByteArray) (x : ByteArray) : List ByteArray := if (cutA x 64).toList == node.toList then ys ++ [cutZ x 64] else ys
def subjL (xs : List ByteArray) (node : ByteArray) : List ByteArray := xs.foldl (subjStep node) []
theorem subj_len (node : ByteArray) : ∀ (xs ys : List ByteArray), (xs.foldl (subjStep node) ys).length <= ys.length + xs.length := by
 intro xs
 induction xs with
 | nil => intro ys; simp
 | cons x xs ih =>
  intro ys
  have := ih (subjStep node ys x)
  have h2 : (subjStep node ys x).length <= ys.length + 1 := by unfold subjStep; split <;> simp
  simp only [List.foldl_cons, List.length_cons]; omega
theorem subjects_any (v : Value) (xs : List ByteArray) (node : ByteArray) (w : World) (h : StrsAt w v xs) (hl : xs.length <= 1000) (hsz : ∀ x ∈ xs, x.size <= maxLen) :
  Calls Tryz.prog 220 #[v, .string node] w fun e w' => ∃ v', e = .returned v' /\ w'.ownsRow w.heap.size 9 1 v' (subjL xs node).length (strV (subjL xs node)) /\ Below w.heap.size w w' := by
 rcases h with ⟨rfl, rfl⟩ | ⟨b, off, cap, rfl, hc⟩
 ·go_enter Tryz.func220, Tryz.ntmps220
  go_wp2
  refine wp_loop_rounds 1 ?_
  rw [rounds_succ]
  go_wp2
  go_ret
  exact ⟨_, rfl, World.ownsRow_nil _ _ _ _, Below.refl _ _⟩
 ·obtain ⟨n, hn⟩ : ∃ n, xs.length = n := ⟨_, rfl⟩
  have HX : Hid (xs.length = n) := hn
  have HSZ : Hid (∀ x ∈ xs, x.size <= maxLen) := hsz
  rw [hn] at hl ⊢
  clear hn hsz
  go_enter Tryz.func220, Tryz.ntmps220
  go_wp2
  go_loopw [5, 6] (fun ov i wr => ∃ (k : Nat) (o : Value), o = ov /\ k <= n /\ i = .int .i64 k /\ wr.ownsRow w.heap.size 9 1 o ((xs.take k).foldl (subjStep node) []).length (strV ((xs.take k).foldl (subjStep node) [])) /\ Below w.heap.size w wr) (fun _ i _ => n - (intOf i).toNat)
  case atStart => exact ⟨0, _, rfl, Nat.zero_le _, rfl, World.ownsRow_nil _ _ _ _, Below.refl _ _⟩
  case round =>
   obtain ⟨k, o, rfl, hk, rfl, hown, hb⟩ := hrel
   by_cases hlt : k < n
   ·have hkx : k < xs.length := by have := HX.out; omega
    obtain ⟨x, hx⟩ : ∃ x, xs[k] = x := ⟨_, rfl⟩
    have hck0 := hc k x (by rw [List.getElem?_eq_getElem hkx, hx])
    have hck : wr.cell? ⟨b, off + k, none⟩ = some (.string x) := by rw [← hck0]; exact hb.cell (cell_lt hck0)
    have HS : Hid ((xs.take (k + 1)).foldl (subjStep node) [] = subjStep node ((xs.take k).foldl (subjStep node) []) x) := by
     show _ = _
     rw [List.take_succ_eq_append_getElem hkx, List.foldl_append, hx]; rfl
    have HLen : Hid (((xs.take k).foldl (subjStep node) []).length <= 2000) := by
     have := subj_len node (xs.take k) []
     rw [List.length_take] at this
     show _ <= _
     simp at this; omega
    have hxs : x.size <= maxLen := HSZ.out x (by rw [← hx]; exact List.getElem_mem hkx)
    obtain ⟨A, Z, O, hA, hZ, hO, -, -, hct⟩ := cut_gen x 64 hxs
    have HCT : Hid (∀ w, Calls Tryz.prog 117 #[.string x, .int .u8 64] w fun e w' => e = .returned (.tuple #[.string A, .string Z, .bool O]) /\ ∃ n, w' = w.drewN n) := hct
    clear hct hc hx hck0 hkx
    generalize (xs.take k).foldl (subjStep node) [] = ys at *
    cases heq : (A.toList == node.toList)
    ·have HQ : Hid ((xs.take (k + 1)).foldl (subjStep node) [] = ys) := by show _ = _; rw [HS.out]; unfold subjStep; rw [hA, heq]; rfl
     go_wp2_with (go_at_call 117; refine (HCT.out _).mono ?_; rintro e w1 ⟨rfl, nq, rfl⟩)
     go_roundw
     case rel => exact ⟨k + 1, o, rfl, by omega, by go_num, by rw [HQ.out]; exact owns_below hown (below_draw ⟨nq, rfl⟩), hb.trans (below_draw ⟨nq, rfl⟩ |>.mono hb.size)⟩
     case measure => simp [intOf]; omega
    ·have HQ : Hid ((xs.take (k + 1)).foldl (subjStep node) [] = ys ++ [Z]) := by show _ = _; rw [HS.out]; unfold subjStep; rw [hA, heq, hZ]; rfl
     have HAP : Hid (∀ nq, ∃ v1 w1, (Builtin.append_ #[28, 28] 28 #[o, .slice (some ⟨wr.heap.size, 0, none⟩) 1 1]).run Tryz.prog ((wr.drewN nq).alloc (.cells #[.string Z] 9)) = .ok v1 w1 /\ w1.ownsRow w.heap.size 9 1 v1 (ys ++ [Z]).length (strV (ys ++ [Z])) /\ Below w.heap.size w w1) := by
      intro nq
      have hb2 : Below w.heap.size w (wr.drewN nq) := hb.trans ((below_draw ⟨nq, rfl⟩).mono hb.size)
      have ho2 := owns_below hown (below_draw ⟨nq, rfl⟩)
      obtain ⟨v1, w1, hr1, ho1, hg1, -⟩ := app_str (wr.drewN nq) w.heap.size o ys.length ys rfl Z ho2 hb2.size (by have := HLen.out; omega)
      exact ⟨v1, w1, hr1, by rw [List.length_append]; exact ho1, hb2.grown hg1 hb2.size (fun j hj => (ho2.lt j hj).1)⟩
     clear hown hb HS
     go_wp2_with (first | (go_at_call 117; refine (HCT.out _).mono ?_; rintro e w1 ⟨rfl, nq, rfl⟩; obtain ⟨v2, w2, hr2, ho2, hb2⟩ := HAP.out nq; have HR : Hid (w2.ownsRow w.heap.size 9 1 v2 (ys ++ [Z]).length (strV (ys ++ [Z])) /\ Below w.heap.size w w2) := ⟨ho2, hb2⟩; clear ho2 hb2) | (at_builtin; refine wpList_app_run rfl (.tmp 28) (.tmp 30) 28 rfl _ _ _ rfl rfl hr2 ?_))
     go_roundw
     case rel => exact ⟨k + 1, v2, rfl, by omega, by go_num, by rw [HQ.out]; exact HR.out.1, HR.out.2⟩
     case measure => simp [intOf]; omega
   ·obtain rfl : k = n := by omega
    have HE : Hid ((xs.take k).foldl (subjStep node) [] = subjL xs node) := by show _ = _; unfold subjL; rw [List.take_of_length_le (by rw [HX.out]; exact Nat.le_refl _)]
    rw [HE.out] at hown
    have HR : Hid (wr.ownsRow w.heap.size 9 1 o (subjL xs node).length (strV (subjL xs node)) /\ Below w.heap.size w wr) := ⟨hown, hb⟩
    clear hown hb hc
    go_wp2
    go_ret
    exact ⟨_, rfl, HR.out.1, HR.out.2⟩
def hashS (a b : ByteArray) : ByteArray := a ++ { data := #[35] } ++ b
def nodeStep (ys : List ByteArray) (x : ByteArray) : List ByteArray := if nodeS x then ys ++ [x] else ys
def arrStep (B : ByteArray) (ys : List ByteArray) (x : ByteArray) : List ByteArray := if thingS x then ys ++ [hashS x B] else ys
def namedF (ts : List ByteArray) (node : ByteArray) : Nat -> ByteArray -> List ByteArray
 | f, way =>
  if (apartS way).is = 116 then (subjL ts node).foldl nodeStep []
  else if (apartS way).is = 114 then [hashS (cutA node 35) (apartS way).A]
  else if (apartS way).is = 97 then (subjL ts (hashS (cutA node 35) (apartS way).A)).foldl (arrStep (apartS way).B) []
  else match f with
   | 0 => []
   | f + 1 => namedF ts node f (apartS way).A ++ namedF ts node f (apartS way).B
theorem cutA_le (s : ByteArray) (c : Int) : (cutA s c).size <= s.size := by
 unfold cutA
 split <;> simp <;> omega
def NPost (w : World) (l : List ByteArray) (e : Ending) (w' : World) : Prop := ∃ v, e = .returned v /\ w'.ownsRow w.heap.size 9 1 v l.length (strV l) /\ Below w.heap.size w w'
theorem named_rel (gb : Nat) (tv : Value) (ts : List ByteArray) (node way : ByteArray) (f : Nat) (w : World) (hs : way.size <= 1000) (hn : node.size <= 140737488355328) (ht : StrsAt w tv ts) (hr : (apartS way).is = 114) (hA : (apartS way).A.size <= 1000) :
  Calls Tryz.prog 201 #[.pointer (some ⟨gb, 0, none⟩), tv, .string node, .string way] w (NPost w (namedF ts node f way)) := by
 have HE : Hid (namedF ts node f way = [hashS (cutA node 35) (apartS way).A]) := by
  show _ = _
  cases f <;> rw [namedF, if_neg (by omega), if_pos hr]
 have hml : way.size <= maxLen := by unfold maxLen; omega
 have hnl : node.size <= maxLen := by unfold maxLen; omega
 have ha := fun w => apart_any way.size way w hml (Nat.le_refl _)
 change (∀ w, Calls Tryz.prog 199 #[.string way] w fun e w' => e = .returned (apartS way).val /\ Below w.heap.size w w') at ha
 have hts : (cutA node 35).size <= 140737488355328 := Nat.le_trans (cutA_le node 35) hn
 obtain ⟨A0, Z0, O0, e1, e2, e3, h1, h2, hct⟩ := cut_gen node 35 hnl
 have htv : ∃ x n c, tv = .slice x n c := by
  rcases ht with ⟨rfl, -⟩ | ⟨b, off, cap, rfl, -⟩
  ·exact ⟨_, _, _, rfl⟩
  ·exact ⟨_, _, _, rfl⟩
 obtain ⟨tx, tn, tc, rfl⟩ := htv
 rw [e1] at HE hts
 unfold Pt.val at ha
 rw [hr] at ha
 generalize (apartS way).A = A at *
 generalize (apartS way).B = B at *
 have HCT : Hid (∀ w, Calls Tryz.prog 117 #[.string node, .int .u8 35] w fun e w' => e = .returned (.tuple #[.string A0, .string Z0, .bool O0]) /\ ∃ n, w' = w.drewN n) := hct
 have HA : Hid (∀ w, Calls Tryz.prog 199 #[.string way] w fun e w' => e = .returned (.agg #[.int .u8 114, .string A, .string B]) /\ Below w.heap.size w w') := ha
 have HAP : Hid (∀ w2, Below w.heap.size w w2 -> ∃ v4 w4, (Builtin.append_ #[28, 28] 28 #[.slice none 0 0, .slice (some ⟨w2.heap.size + 1, 0, none⟩) 1 1]).run Tryz.prog ((w2.alloc (.cells #[.int .u8 114, .string A, .string B] 234)).alloc (.cells #[.string (A0 ++ { data := #[35] } ++ A)] 9)) = .ok v4 w4 /\ Hid (w4.ownsRow w.heap.size 9 1 v4 (namedF ts node f way).length (strV (namedF ts node f way)) /\ Below w.heap.size w w4)) := by
  intro w2 hb2
  have hb3 : Below w.heap.size w (w2.alloc (.cells #[.int .u8 114, .string A, .string B] 234)) := hb2.alloc hb2.size _
  obtain ⟨v4, w4, hr4, ho4, hg4, -⟩ := app_str (w2.alloc (.cells #[.int .u8 114, .string A, .string B] 234)) w.heap.size (.slice none 0 0) 0 [] rfl (A0 ++ { data := #[35] } ++ A) (World.ownsRow_nil _ _ _ _) hb3.size (by omega)
  rw [World.size_alloc] at hr4
  refine ⟨v4, w4, hr4, ?_, hb3.grown hg4 hb3.size (fun j hj => by cases hj)⟩
  rw [HE.out]; exact ho4
 clear ht hct ha e1 e2 e3 hr hml hnl
 go_enter Tryz.func201, Tryz.ntmps201
 go_wp2_with (first | (go_at_call 117; refine (HCT.out _).mono ?_; rintro e w1 ⟨rfl, nq, rfl⟩) | (go_at_call 199; refine (HA.out _).mono ?_; rintro e w2 ⟨rfl, hb2⟩; obtain ⟨v4, w4, hr4, HR⟩ := HAP.out w2 (Below.trans (below_draw ⟨nq, rfl⟩) (hb2.mono (below_draw ⟨nq, rfl⟩).size))) | (at_builtin; refine wpList_app_run rfl (.tmp 76) (.tmp 82) 28 rfl _ _ _ rfl rfl hr4 ?_))
 go_ret
 exact ⟨_, rfl, HR.out.1, HR.out.2⟩
theorem foldl_len (g : List ByteArray -> ByteArray -> List ByteArray) (hg : ∀ ys x, (g ys x).length <= ys.length + 1) : ∀ (xs ys : List ByteArray), (xs.foldl g ys).length <= ys.length + xs.length := by
 intro xs
 induction xs with
 | nil => intro ys; simp
 | cons x xs ih =>
  intro ys
  have := ih (g ys x)
  have := hg ys x
  simp only [List.foldl_cons, List.length_cons]; omega
theorem nodeStep_len (ys : List ByteArray) (x : ByteArray) : (nodeStep ys x).length <= ys.length + 1 := by unfold nodeStep; split <;> simp
theorem arrStep_len (B : ByteArray) (ys : List ByteArray) (x : ByteArray) : (arrStep B ys x).length <= ys.length + 1 := by unfold arrStep; split <;> simp
theorem subj_mem (node : ByteArray) : ∀ (xs ys : List ByteArray) (y : ByteArray), y ∈ xs.foldl (subjStep node) ys -> y ∈ ys \/ ∃ x ∈ xs, y = cutZ x 64 := by
 intro xs
 induction xs with
 | nil => intro ys y h; exact Or.inl h
 | cons x xs ih =>
  intro ys y h
  rcases ih _ y h with h | ⟨z, hz, e⟩
  ·unfold subjStep at h
   split at h
   ·rcases List.mem_append.1 h with h | h
    ·exact Or.inl h
    ·simp at h; exact Or.inr ⟨x, List.mem_cons_self, h⟩
   ·exact Or.inl h
  ·exact Or.inr ⟨z, List.mem_cons_of_mem _ hz, e⟩
theorem namedRef_this (gb : Nat) (tv : Value) (ts : List ByteArray) (node way : ByteArray) (f : Nat) (w : World) (hs : way.size <= 1000) (hn : node.size <= 140737488355328) (ht : StrsAt w tv ts) (hl : ts.length <= 50) (hsz : ∀ x ∈ ts, x.size <= maxLen) (hr : (apartS way).is = 116) :
  Calls Tryz.prog 201 #[.pointer (some ⟨gb, 0, none⟩), tv, .string node, .string way] w (NPost w (namedF ts node f way)) := by
 have HE : Hid (namedF ts node f way = (subjL ts node).foldl nodeStep []) := by
  show _ = _
  cases f <;> rw [namedF, if_pos hr]
 have hml : way.size <= maxLen := by unfold maxLen; omega
 have hnl : node.size <= maxLen := by unfold maxLen; omega
 have ha := fun w => apart_any way.size way w hml (Nat.le_refl _)
 change (∀ w, Calls Tryz.prog 199 #[.string way] w fun e w' => e = .returned (apartS way).val /\ Below w.heap.size w w') at ha
 obtain ⟨A0, Z0, O0, e1, e2, e3, h1, h2, hct⟩ := cut_gen node 35 hnl
 have HSJ : Hid (∀ w2, Below w.heap.size w w2 -> Calls Tryz.prog 220 #[tv, .string node] w2 fun e w3 => ∃ lx lc, e = .returned (.slice lx (subjL ts node).length lc) /\ StrsAt w3 (.slice lx (subjL ts node).length lc) (subjL ts node) /\ Below w.heap.size w w3) := by
  intro w2 hb2
  refine (subjects_any tv ts node w2 (strs_below ht hb2) (by omega) hsz).mono ?_
  rintro e w3 ⟨v, rfl, ho, hb3⟩
  obtain ⟨lx, lc, rfl⟩ : ∃ lx lc, v = .slice lx (subjL ts node).length lc := by
   rcases ho.2 with ⟨rfl, h0⟩ | ⟨g, cap, cur, rfl, -⟩
   ·exact ⟨none, 0, by rw [h0]⟩
   ·exact ⟨_, cap, rfl⟩
  exact ⟨lx, lc, rfl, owns_strs ho, hb2.trans (hb3.mono hb2.size)⟩
 have HSM : Hid (∀ y ∈ subjL ts node, y.size <= maxLen) := by
  intro y hy
  rcases subj_mem node ts [] y hy with h | ⟨x, hx, rfl⟩
  ·cases h
  ·exact cutZ_size x 64 (hsz x hx)
 have HSL : Hid ((subjL ts node).length <= 50) := by
  have := subj_len node ts []
  show _ <= _
  unfold subjL
  simp at this; omega
 have htv : ∃ x n c, tv = .slice x n c := by
  rcases ht with ⟨rfl, -⟩ | ⟨b, off, cap, rfl, -⟩
  ·exact ⟨_, _, _, rfl⟩
  ·exact ⟨_, _, _, rfl⟩
 obtain ⟨tx, tn, tc, rfl⟩ := htv
 unfold Pt.val at ha
 rw [hr] at ha
 generalize (apartS way).A = A at *
 generalize (apartS way).B = B at *
 generalize subjL ts node = ls at *
 have HCT : Hid (∀ w, Calls Tryz.prog 117 #[.string node, .int .u8 35] w fun e w' => e = .returned (.tuple #[.string A0, .string Z0, .bool O0]) /\ ∃ n, w' = w.drewN n) := hct
 have HA : Hid (∀ w, Calls Tryz.prog 199 #[.string way] w fun e w' => e = .returned (.agg #[.int .u8 116, .string A, .string B]) /\ Below w.heap.size w w') := ha
 clear ht hct ha e1 e2 e3 hr hml hnl hsz
 go_enter Tryz.func201, Tryz.ntmps201
 go_wp2_with (first | (go_at_call 117; refine (HCT.out _).mono ?_; rintro e w1 ⟨rfl, nq, rfl⟩) | (go_at_call 199; refine (HA.out _).mono ?_; rintro e w2 ⟨rfl, hb2⟩; have hb2' : Below w.heap.size w w2 := Below.trans (below_draw ⟨nq, rfl⟩) (hb2.mono (below_draw ⟨nq, rfl⟩).size)) | (go_at_call 220; refine (HSJ.out _ (hb2'.alloc hb2'.size _)).mono ?_; rintro e w3 ⟨lx, lc, rfl, hst, hb3⟩))
 rcases hst with ⟨e0, rfl⟩ | ⟨b, off, cap, e0, hc⟩
 ·injection e0 with e0 _ e0'
  subst e0; subst e0'
  refine wp_loop_rounds 1 ?_
  rw [rounds_succ]
  go_wp2
  go_ret
  refine ⟨_, rfl, ?_, hb3⟩
  rw [HE.out]; exact World.ownsRow_nil _ _ _ _
 ·injection e0 with e0 _ e0'
  subst e0; subst e0'
  obtain ⟨n, hx⟩ : ∃ n, ls.length = n := ⟨_, rfl⟩
  have HX : Hid (ls.length = n) := hx
  have HB3 : Hid (Below w.heap.size w w3) := hb3
  clear hb2 hb2' hb3
  rw [hx]
  have hl5 : n <= 50 := by have := HSL.out; omega
  clear hx
  go_loopw [13, 15] (fun ov i wr => ∃ (k : Nat) (o : Value), o = ov /\ k <= n /\ i = .int .i64 k /\ wr.ownsRow w3.heap.size 9 1 o ((ls.take k).foldl nodeStep []).length (strV ((ls.take k).foldl nodeStep [])) /\ Below w3.heap.size w3 wr) (fun _ i _ => n - (intOf i).toNat)
  case atStart => exact ⟨0, _, rfl, Nat.zero_le _, rfl, World.ownsRow_nil _ _ _ _, Below.refl _ _⟩
  case round =>
   obtain ⟨k, o, rfl, hk, rfl, hown, hb⟩ := hrel
   by_cases hlt : k < n
   ·have hkx : k < ls.length := by have := HX.out; omega
    obtain ⟨x, hx⟩ : ∃ x, ls[k] = x := ⟨_, rfl⟩
    have hck0 := hc k x (by rw [List.getElem?_eq_getElem hkx, hx])
    have hck : wr.cell? ⟨b, off + k, none⟩ = some (.string x) := by rw [← hck0]; exact hb.cell (cell_lt hck0)
    have hckd : ∀ nq, (wr.drewN nq).cell? ⟨b, off + k, none⟩ = some (.string x) := fun nq => hck
    have HS : Hid ((ls.take (k + 1)).foldl nodeStep [] = nodeStep ((ls.take k).foldl nodeStep []) x) := by
     show _ = _
     rw [List.take_succ_eq_append_getElem hkx, List.foldl_append, hx]; rfl
    have HLen : Hid (((ls.take k).foldl nodeStep []).length <= 2000) := by
     have := foldl_len nodeStep nodeStep_len (ls.take k) []
     rw [List.length_take] at this
     show _ <= _
     simp at this; omega
    have hxs : x.size <= maxLen := HSM.out x (by rw [← hx]; exact List.getElem_mem hkx)
    have HND : Hid (∀ w, Calls Tryz.prog 73 #[.string x] w fun e w' => e = .returned (.bool (nodeS x)) /\ ∃ n, w' = w.drewN n) := fun w => node_any x w hxs
    clear hc hx hck0 hkx
    generalize (ls.take k).foldl nodeStep [] = ys at *
    cases heq : nodeS x
    ·have HQ : Hid ((ls.take (k + 1)).foldl nodeStep [] = ys) := by show _ = _; rw [HS.out]; unfold nodeStep; rw [heq]; rfl
     rw [heq] at HND
     go_wp2_with (go_at_call 73; refine (HND.out _).mono ?_; rintro e w1 ⟨rfl, nq, rfl⟩)
     go_roundw
     case rel => exact ⟨k + 1, o, rfl, by omega, by go_num, by rw [HQ.out]; exact owns_below hown (below_draw ⟨nq, rfl⟩), hb.trans (below_draw ⟨nq, rfl⟩ |>.mono hb.size)⟩
     case measure => simp [intOf]; omega
    ·have HQ : Hid ((ls.take (k + 1)).foldl nodeStep [] = ys ++ [x]) := by show _ = _; rw [HS.out]; unfold nodeStep; rw [heq]; rfl
     rw [heq] at HND
     have HAP : Hid (∀ nq, ∃ v1 w1, (Builtin.append_ #[28, 28] 28 #[o, .slice (some ⟨wr.heap.size, 0, none⟩) 1 1]).run Tryz.prog ((wr.drewN nq).alloc (.cells #[.string x] 9)) = .ok v1 w1 /\ w1.ownsRow w3.heap.size 9 1 v1 (ys ++ [x]).length (strV (ys ++ [x])) /\ Below w3.heap.size w3 w1) := by
      intro nq
      have hb2 : Below w3.heap.size w3 (wr.drewN nq) := hb.trans ((below_draw ⟨nq, rfl⟩).mono hb.size)
      have ho2 := owns_below hown (below_draw ⟨nq, rfl⟩)
      obtain ⟨v1, w1, hr1, ho1, hg1, -⟩ := app_str (wr.drewN nq) w3.heap.size o ys.length ys rfl x ho2 hb2.size (by have := HLen.out; omega)
      exact ⟨v1, w1, hr1, by rw [List.length_append]; exact ho1, hb2.grown hg1 hb2.size (fun j hj => (ho2.lt j hj).1)⟩
     clear hown hb HS
     go_wp2_with (first | (go_at_call 73; refine (HND.out _).mono ?_; rintro e w1 ⟨rfl, nq, rfl⟩; obtain ⟨v2, w2', hr2, ho2, hb2⟩ := HAP.out nq; have HR : Hid (w2'.ownsRow w3.heap.size 9 1 v2 (ys ++ [x]).length (strV (ys ++ [x])) /\ Below w3.heap.size w3 w2') := ⟨ho2, hb2⟩; clear ho2 hb2) | (at_builtin; refine wpList_app_run rfl (.tmp 67) (.tmp 72) 28 rfl _ _ _ rfl rfl hr2 ?_))
     go_roundw
     case rel => exact ⟨k + 1, v2, rfl, by omega, by go_num, by rw [HQ.out]; exact HR.out.1, HR.out.2⟩
     case measure => simp [intOf]; omega
   ·obtain rfl : k = n := by omega
    have HR : Hid (NPost w (namedF ts node f way) (.returned o) wr) := by
     refine ⟨o, rfl, ?_, HB3.out.trans (hb.mono HB3.out.size)⟩
     rw [List.take_of_length_le (by rw [HX.out]; exact Nat.le_refl _)] at hown
     rw [HE.out]
     obtain ⟨q1, q2⟩ := hown
     refine ⟨q1, ?_⟩
     rcases q2 with h | ⟨g, cp, cu, rfl, a, d⟩
     ·exact Or.inl h
     ·exact Or.inr ⟨g, cp, cu, rfl, Nat.le_trans HB3.out.size a, d⟩
    clear hown hb hc
    go_wp2
    go_ret
    exact HR.out
theorem cutZ_le (s : ByteArray) (c : Int) : (cutZ s c).size <= s.size := by
 unfold cutZ
 split <;> simp <;> omega
theorem named_arr (gb : Nat) (tv : Value) (ts : List ByteArray) (node way : ByteArray) (f : Nat) (w : World) (hs : way.size <= 1000) (hn : node.size <= 140737488355328) (ht : StrsAt w tv ts) (hl : ts.length <= 50) (hsz : ∀ x ∈ ts, x.size <= maxLen) (hsq : ∀ x ∈ ts, x.size <= 140737488355328) (hr : (apartS way).is = 97) (hA : (apartS way).A.size <= 1000) (hB : (apartS way).B.size <= 1000) :
  Calls Tryz.prog 201 #[.pointer (some ⟨gb, 0, none⟩), tv, .string node, .string way] w (NPost w (namedF ts node f way)) := by
 have HE : Hid (namedF ts node f way = (subjL ts (hashS (cutA node 35) (apartS way).A)).foldl (arrStep (apartS way).B) []) := by
  show _ = _
  cases f <;> rw [namedF, if_neg (by omega), if_neg (by omega), if_pos hr]
 have hml : way.size <= maxLen := by unfold maxLen; omega
 have hnl : node.size <= maxLen := by unfold maxLen; omega
 have ha := fun w => apart_any way.size way w hml (Nat.le_refl _)
 change (∀ w, Calls Tryz.prog 199 #[.string way] w fun e w' => e = .returned (apartS way).val /\ Below w.heap.size w w') at ha
 have hts : (cutA node 35).size <= 140737488355328 := Nat.le_trans (cutA_le node 35) hn
 obtain ⟨A0, Z0, O0, e1, e2, e3, h1, h2, hct⟩ := cut_gen node 35 hnl
 rw [e1] at HE hts
 obtain ⟨N, hN⟩ : ∃ N, hashS A0 (apartS way).A = N := ⟨_, rfl⟩
 have HN : Hid (A0 ++ { data := #[35] } ++ (apartS way).A = N) := hN
 rw [hN] at HE
 clear hN
 have HSJ : Hid (∀ w2, Below w.heap.size w w2 -> Calls Tryz.prog 220 #[tv, .string N] w2 fun e w3 => ∃ lx lc, e = .returned (.slice lx (subjL ts N).length lc) /\ StrsAt w3 (.slice lx (subjL ts N).length lc) (subjL ts N) /\ Below w.heap.size w w3 /\ Below w2.heap.size w2 w3) := by
  intro w2 hb2
  refine (subjects_any tv ts N w2 (strs_below ht hb2) (by omega) hsz).mono ?_
  rintro e w3 ⟨v, rfl, ho, hb3⟩
  obtain ⟨lx, lc, rfl⟩ : ∃ lx lc, v = .slice lx (subjL ts N).length lc := by
   rcases ho.2 with ⟨rfl, h0⟩ | ⟨g, cap, cur, rfl, -⟩
   ·exact ⟨none, 0, by rw [h0]⟩
   ·exact ⟨_, cap, rfl⟩
  exact ⟨lx, lc, rfl, owns_strs ho, hb2.trans (hb3.mono hb2.size), hb3⟩
 have HSM : Hid (∀ y ∈ subjL ts N, y.size <= maxLen) := by
  intro y hy
  rcases subj_mem N ts [] y hy with h | ⟨x, hx, rfl⟩
  ·cases h
  ·exact cutZ_size x 64 (hsz x hx)
 have HSQ : Hid (∀ y ∈ subjL ts N, y.size <= 140737488355328) := by
  intro y hy
  rcases subj_mem N ts [] y hy with h | ⟨x, hx, rfl⟩
  ·cases h
  ·exact Nat.le_trans (cutZ_le x 64) (hsq x hx)
 have HSL : Hid ((subjL ts N).length <= 50) := by
  have := subj_len N ts []
  show _ <= _
  unfold subjL
  simp at this; omega
 have htv : ∃ x n c, tv = .slice x n c := by
  rcases ht with ⟨rfl, -⟩ | ⟨b, off, cap, rfl, -⟩
  ·exact ⟨_, _, _, rfl⟩
  ·exact ⟨_, _, _, rfl⟩
 obtain ⟨tx, tn, tc, rfl⟩ := htv
 unfold Pt.val at ha
 rw [hr] at ha
 generalize (apartS way).A = A at *
 generalize (apartS way).B = B at *
 generalize subjL ts N = ls at *
 have HCT : Hid (∀ w, Calls Tryz.prog 117 #[.string node, .int .u8 35] w fun e w' => e = .returned (.tuple #[.string A0, .string Z0, .bool O0]) /\ ∃ n, w' = w.drewN n) := hct
 have HA : Hid (∀ w, Calls Tryz.prog 199 #[.string way] w fun e w' => e = .returned (.agg #[.int .u8 97, .string A, .string B]) /\ Below w.heap.size w w') := ha
 clear ht hct ha e1 e2 e3 hr hml hnl hsz hsq
 go_enter Tryz.func201, Tryz.ntmps201
 go_wp2_with (first | (go_at_call 117; refine (HCT.out _).mono ?_; rintro e w1 ⟨rfl, nq, rfl⟩) | (go_at_call 199; refine (HA.out _).mono ?_; rintro e w2 ⟨rfl, hb2⟩; have hb2' : Below w.heap.size w w2 := Below.trans (below_draw ⟨nq, rfl⟩) (hb2.mono (below_draw ⟨nq, rfl⟩).size)) | (go_at_call 220; rw [HN.out]; refine (HSJ.out _ (hb2'.alloc hb2'.size _)).mono ?_; rintro e w3 ⟨lx, lc, rfl, hst, hb3, hb4⟩; have hp2 := row_cell (alloc_new w2 [.int .u8 97, .string A, .string B] 234) (j := 2) rfl; have hp3 : w3.cell? ⟨w2.heap.size, 2, none⟩ = some (.string B) := (hb4.cell (cell_lt hp2)).trans hp2; clear hp2 hb4))
 rcases hst with ⟨e0, rfl⟩ | ⟨b, off, cap, e0, hc⟩
 ·injection e0 with e0 _ e0'
  subst e0; subst e0'
  refine wp_loop_rounds 1 ?_
  rw [rounds_succ]
  go_wp2
  go_ret
  refine ⟨_, rfl, ?_, hb3⟩
  rw [HE.out]; exact World.ownsRow_nil _ _ _ _
 ·injection e0 with e0 _ e0'
  subst e0; subst e0'
  obtain ⟨n, hx⟩ : ∃ n, ls.length = n := ⟨_, rfl⟩
  have HX : Hid (ls.length = n) := hx
  have HB3 : Hid (Below w.heap.size w w3) := hb3
  have HPT : Hid (w3.cell? ⟨w2.heap.size, 2, none⟩ = some (.string B)) := hp3
  clear hb2 hb2' hb3 hp3
  rw [hx]
  have hl5 : n <= 50 := by have := HSL.out; omega
  clear hx
  go_loopw [13, 18] (fun ov i wr => ∃ (k : Nat) (o : Value), o = ov /\ k <= n /\ i = .int .i64 k /\ wr.ownsRow w3.heap.size 9 1 o ((ls.take k).foldl (arrStep B) []).length (strV ((ls.take k).foldl (arrStep B) [])) /\ Below w3.heap.size w3 wr) (fun _ i _ => n - (intOf i).toNat)
  case atStart => exact ⟨0, _, rfl, Nat.zero_le _, rfl, World.ownsRow_nil _ _ _ _, Below.refl _ _⟩
  case round =>
   obtain ⟨k, o, rfl, hk, rfl, hown, hb⟩ := hrel
   by_cases hlt : k < n
   ·have hkx : k < ls.length := by have := HX.out; omega
    obtain ⟨x, hx⟩ : ∃ x, ls[k] = x := ⟨_, rfl⟩
    have hck0 := hc k x (by rw [List.getElem?_eq_getElem hkx, hx])
    have hck : wr.cell? ⟨b, off + k, none⟩ = some (.string x) := by rw [← hck0]; exact hb.cell (cell_lt hck0)
    have hckd : ∀ nq, (wr.drewN nq).cell? ⟨b, off + k, none⟩ = some (.string x) := fun nq => hck
    have HS : Hid ((ls.take (k + 1)).foldl (arrStep B) [] = arrStep B ((ls.take k).foldl (arrStep B) []) x) := by
     show _ = _
     rw [List.take_succ_eq_append_getElem hkx, List.foldl_append, hx]; rfl
    have HLen : Hid (((ls.take k).foldl (arrStep B) []).length <= 2000) := by
     have := foldl_len (arrStep B) (arrStep_len B) (ls.take k) []
     rw [List.length_take] at this
     show _ <= _
     simp at this; omega
    have hxs : x.size <= maxLen := HSM.out x (by rw [← hx]; exact List.getElem_mem hkx)
    have HND : Hid (∀ w, Calls Tryz.prog 118 #[.string x] w fun e w' => e = .returned (.bool (thingS x)) /\ ∃ n, w' = w.drewN n) := fun w => thing_any x w hxs
    have hxq : x.size <= 140737488355328 := HSQ.out x (by rw [← hx]; exact List.getElem_mem hkx)
    have hpt : ∀ nq, (wr.drewN nq).cell? ⟨w2.heap.size, 2, none⟩ = some (.string B) := fun nq => (hb.cell (cell_lt HPT.out)).trans HPT.out
    clear hc hx hck0 hkx
    generalize (ls.take k).foldl (arrStep B) [] = ys at *
    cases heq : thingS x
    ·have HQ : Hid ((ls.take (k + 1)).foldl (arrStep B) [] = ys) := by show _ = _; rw [HS.out]; unfold arrStep; rw [heq]; rfl
     rw [heq] at HND
     go_wp2_with (go_at_call 118; refine (HND.out _).mono ?_; rintro e w1 ⟨rfl, nq, rfl⟩)
     go_roundw
     case rel => exact ⟨k + 1, o, rfl, by omega, by go_num, by rw [HQ.out]; exact owns_below hown (below_draw ⟨nq, rfl⟩), hb.trans (below_draw ⟨nq, rfl⟩ |>.mono hb.size)⟩
     case measure => simp [intOf]; omega
    ·have HQ : Hid ((ls.take (k + 1)).foldl (arrStep B) [] = ys ++ [x ++ { data := #[35] } ++ B]) := by show _ = _; rw [HS.out]; unfold arrStep hashS; rw [heq]; rfl
     rw [heq] at HND
     have hq1 : ¬ 9223372036854775807 < x.size + 1 := by omega
     have hq2 : ¬ 9223372036854775807 < x.size + 1 + B.size := by omega
     have hq3 : ¬ 9223372036854775807 < x.size + (1 + B.size) := by omega
     have HAP : Hid (∀ nq, ∃ v1 w1, (Builtin.append_ #[28, 28] 28 #[o, .slice (some ⟨wr.heap.size, 0, none⟩) 1 1]).run Tryz.prog ((wr.drewN (nq + 1)).alloc (.cells #[.string (x ++ { data := #[35] } ++ B)] 9)) = .ok v1 w1 /\ w1.ownsRow w3.heap.size 9 1 v1 (ys ++ [x ++ { data := #[35] } ++ B]).length (strV (ys ++ [x ++ { data := #[35] } ++ B])) /\ Below w3.heap.size w3 w1) := by
      intro nq
      have hb2 : Below w3.heap.size w3 (wr.drewN (nq + 1)) := hb.trans ((below_draw ⟨nq + 1, rfl⟩).mono hb.size)
      have ho2 := owns_below hown (below_draw ⟨nq + 1, rfl⟩)
      obtain ⟨v1, w1, hr1, ho1, hg1, -⟩ := app_str (wr.drewN (nq + 1)) w3.heap.size o ys.length ys rfl (x ++ { data := #[35] } ++ B) ho2 hb2.size (by have := HLen.out; omega)
      exact ⟨v1, w1, hr1, by rw [List.length_append]; exact ho1, hb2.grown hg1 hb2.size (fun j hj => (ho2.lt j hj).1)⟩
     clear hown hb HS
     go_wp2_with (first | (go_at_call 118; refine (HND.out _).mono ?_; rintro e w1 ⟨rfl, nq, rfl⟩; obtain ⟨v2, w2', hr2, ho2, hb2⟩ := HAP.out nq; have HR : Hid (w2'.ownsRow w3.heap.size 9 1 v2 (ys ++ [x ++ { data := #[35] } ++ B]).length (strV (ys ++ [x ++ { data := #[35] } ++ B])) /\ Below w3.heap.size w3 w2') := ⟨ho2, hb2⟩; clear ho2 hb2))
     go_region_law (refine step_app_run rfl (.tmp 105) (.tmp 114) 28 rfl _ _ _ (by simp [Act.eval]) (by simp [Act.eval]) hr2 ?_)
     all_goals go_wp2
     all_goals exact ⟨⟨k + 1, v2, rfl, by omega, by go_num, by rw [HQ.out]; exact HR.out.1, HR.out.2⟩, by simp [intOf]; omega⟩
   ·obtain rfl : k = n := by omega
    have HR : Hid (NPost w (namedF ts node f way) (.returned o) wr) := by
     refine ⟨o, rfl, ?_, HB3.out.trans (hb.mono HB3.out.size)⟩
     rw [List.take_of_length_le (by rw [HX.out]; exact Nat.le_refl _)] at hown
     rw [HE.out]
     obtain ⟨q1, q2⟩ := hown
     refine ⟨q1, ?_⟩
     rcases q2 with h | ⟨g, cp, cu, rfl, a, d⟩
     ·exact Or.inl h
     ·exact Or.inr ⟨g, cp, cu, rfl, Nat.le_trans HB3.out.size a, d⟩
    clear hown hb hc
    go_wp2
    go_ret
    exact HR.out
theorem app_nothing (w : World) (x : Option Addr) (n c : Nat) (h : n <= c) : (Builtin.append_ #[28, 28] 28 #[.slice x n c, .slice none 0 0]).run Tryz.prog w = .ok (.slice x n c) w := by
 cases x <;> simp [Builtin.append_, run_underlying Tryz.underlying28, go_sem, h]
theorem app_rows (w : World) (base base2 : Nat) (v u : Value) (xs ys : List ByteArray) (hown : w.ownsRow base 9 1 v xs.length (strV xs)) (hu : w.ownsRow base2 9 1 u ys.length (strV ys)) (hb : base <= w.heap.size) (hl : xs.length + ys.length <= 1000000) :
  ∃ v' w', (Builtin.append_ #[28, 28] 28 #[v, u]).run Tryz.prog w = .ok v' w' /\ w'.ownsRow base 9 1 v' (xs ++ ys).length (strV (xs ++ ys)) /\ w.grownBy w' v.ownBlock := by
 obtain ⟨i, hi, hz, hs, hby⟩ := info_str
 rcases owns_strs hu with ⟨rfl, rfl⟩ | ⟨b, off, cap, rfl, hc⟩
 ·obtain ⟨x, c, hxc, rfl⟩ : ∃ x c, xs.length <= c /\ v = .slice x xs.length c := by
   rcases hown.2 with ⟨rfl, h0⟩ | ⟨g, cp, cu, rfl, -, -, hle, -⟩
   ·exact ⟨none, 0, by omega, by rw [h0]⟩
   ·exact ⟨_, cp, hle, rfl⟩
  exact ⟨_, w, app_nothing w x _ c hxc, by rw [List.append_nil]; exact hown, ⟨rfl, rfl, rfl, Nat.le_refl _, fun _ _ _ => rfl⟩⟩
 ·obtain ⟨v', w', hr, h2, h3, h4⟩ := run_append_own (P := Tryz.prog) w base 28 28 9 i (.string { data := #[] }) 1 16 Tryz.underlying28 hi hz hs hby rfl (by decide) v xs.length (strV xs) hown ⟨b, off, none⟩ ys.length cap (strV ys) (by rw [strV_length, Nat.mul_one])
   (by intro j z hj
       simp only [strV, List.getElem?_map, Option.map_eq_some_iff] at hj
       obtain ⟨y, hy, rfl⟩ := hj
       rw [show (⟨b, off, none⟩ : Addr).add j = ⟨b, off + j, none⟩ by unfold Addr.add; split; · rename_i h; rw [h]; rfl
                                                                      ·rfl]
       exact hc j y hy)
   (strV_one _) (by unfold maxLen; omega) (by omega) hb
  refine ⟨v', w', hr, ?_, h3⟩
  rw [List.length_append, strV_append]; exact h2
theorem apart_kinds : ∀ (n : Nat) (s : ByteArray), s.size <= n -> (apartS s).is = 120 \/ (((apartS s).is = 116 \/ (apartS s).is = 114 \/ (apartS s).is = 97 \/ (apartS s).is = 124 \/ (apartS s).is = 38) /\ (apartS s).A.size <= s.size /\ (apartS s).B.size <= s.size) := by
 intro n
 induction n with
 | zero =>
  intro s hs
  left
  have := frame_cases s
  unfold apartS
  rw [apartF_eq]; unfold frameS
  split
  ·rfl
  ·rw [if_pos (Or.inr (Or.inr (by omega)))]; rfl
 | succ n ih =>
  intro s hs
  rcases frame_cases s with h | ⟨-, -, -, ⟨ha, e⟩ | ⟨-, -, -, h2, e⟩ | ⟨-, e⟩⟩
  ·exact Or.inl h
  ·right
   rcases last_op s.data.toList sc0 0 (by decide) with ⟨h, -⟩ | ⟨A, op, B, hl, h, hop, -⟩
   ·rw [h] at ha; exact absurd ha (by decide)
   ·rw [e, h]
    have hto : ((0 + A.length : Nat) : Int).toNat = A.length := by omega
    rw [hto, opS_parts s A B op hl]
    have hsz : s.size = A.length + (B.length + 1) := by rw [size_len, hl]; simp
    refine ⟨?_, ?_, ?_⟩
    ·rcases hop with rfl | rfl
     ·exact Or.inr (Or.inr (Or.inr (Or.inl rfl)))
     ·exact Or.inr (Or.inr (Or.inr (Or.inr rfl)))
    ·show (mk A).size <= _
     rw [size_len]; simp [mk]; omega
    ·show (mk B).size <= _
     rw [size_len]; simp [mk]; omega
  ·have hx : (s.extract 1 (s.size - 1)).size <= n := by simp only [ByteArray.size_extract]; omega
   have hx2 : (s.extract 1 (s.size - 1)).size <= s.size := by simp only [ByteArray.size_extract]; omega
   rw [e]
   rcases ih _ hx with h | ⟨h1, h3, h4⟩
   ·exact Or.inl h
   ·exact Or.inr ⟨h1, Nat.le_trans h3 hx2, Nat.le_trans h4 hx2⟩
  ·rw [e]
   unfold plainS
   split
   ·right; exact ⟨Or.inl rfl, Nat.zero_le _, Nat.zero_le _⟩
   ·split
    ·right; exact ⟨Or.inr (Or.inl rfl), Nat.le_refl _, Nat.zero_le _⟩
    ·unfold arrowS
     split
     ·exact Or.inl rfl
     ·split
      ·exact Or.inl rfl
      ·right
       refine ⟨Or.inr (Or.inr (Or.inl rfl)), cutA_le s 45, ?_⟩
       have := cutZ_le s 45
       show ((cutZ s 45).extract 1 (cutZ s 45).size).size <= s.size
       simp only [ByteArray.size_extract]; omega
theorem named_chain (gb : Nat) (tv : Value) (ts : List ByteArray) (node A B : ByteArray) (la lb : List ByteArray) (w : World) (ht : StrsAt w tv ts) (hlen : la.length + lb.length <= 1000000)
  (hIA : ∀ w', StrsAt w' tv ts -> Calls Tryz.prog 201 #[.pointer (some ⟨gb, 0, none⟩), tv, .string node, .string A] w' (NPost w' la)) (hIB : ∀ w', StrsAt w' tv ts -> Calls Tryz.prog 201 #[.pointer (some ⟨gb, 0, none⟩), tv, .string node, .string B] w' (NPost w' lb))
  (w3 : World) (pb : Nat) (hP : w3.cell? ⟨pb, 2, none⟩ = some (.string B)) (hb3 : Below w.heap.size w w3) :
  Calls Tryz.prog 201 #[.pointer (some ⟨gb, 0, none⟩), tv, .string node, .string A] w3 fun e w4 => ∃ va, e = .returned va /\ w4.cell? ⟨pb, 2, none⟩ = some (.string B) /\
   Calls Tryz.prog 201 #[.pointer (some ⟨gb, 0, none⟩), tv, .string node, .string B] w4 fun e w5 => ∃ vb, e = .returned vb /\
    ∃ v6 w6, (Builtin.append_ #[28, 28] 28 #[.slice none 0 0, va]).run Tryz.prog w5 = .ok v6 w6 /\
    ∃ v7 w7, (Builtin.append_ #[28, 28] 28 #[v6, vb]).run Tryz.prog w6 = .ok v7 w7 /\ Hid (NPost w (la ++ lb) (.returned v7) w7) := by
 refine (hIA w3 (strs_below ht hb3)).mono ?_
 rintro e w4 ⟨va, rfl, hva, hb4⟩
 have hb04 : Below w.heap.size w w4 := hb3.trans (hb4.mono hb3.size)
 refine ⟨va, rfl, (hb4.cell (cell_lt hP)).trans hP, ?_⟩
 refine (hIB w4 (strs_below ht hb04)).mono ?_
 rintro e w5 ⟨vb, rfl, hvb, hb5⟩
 have hb05 : Below w.heap.size w w5 := hb04.trans (hb5.mono hb04.size)
 refine ⟨vb, rfl, ?_⟩
 obtain ⟨v6, w6, hr6, ho6, hg6⟩ := app_rows w5 w.heap.size w3.heap.size (.slice none 0 0) va [] la (World.ownsRow_nil _ _ _ _) (owns_below hva hb5) hb05.size (by simp; omega)
 rw [List.nil_append] at ho6
 refine ⟨v6, w6, hr6, ?_⟩
 have hb06 : Below w.heap.size w w6 := hb05.grown hg6 hb05.size (fun j hj => by cases hj)
 have hvb6 : w6.ownsRow w4.heap.size 9 1 vb lb.length (strV lb) := owns_to hvb fun g hg => hg6.block g (owns_lt hvb g hg).1 (by intro e; cases e)
 obtain ⟨v7, w7, hr7, ho7, hg7⟩ := app_rows w6 w.heap.size w4.heap.size v6 vb la lb ho6 hvb6 hb06.size hlen
 exact ⟨v7, w7, hr7, v7, rfl, ho7, hb06.grown hg7 hb06.size (fun j hj => (ho6.lt j hj).1)⟩
theorem named_two (gb : Nat) (tv : Value) (ts : List ByteArray) (node way : ByteArray) (la lb : List ByteArray) (w : World) (hs : way.size <= 1000) (hn : node.size <= 140737488355328) (ht : StrsAt w tv ts) (hop : (apartS way).is = 124 \/ (apartS way).is = 38) (hlen : la.length + lb.length <= 1000000)
  (hIA : ∀ w', StrsAt w' tv ts -> Calls Tryz.prog 201 #[.pointer (some ⟨gb, 0, none⟩), tv, .string node, .string (apartS way).A] w' (NPost w' la)) (hIB : ∀ w', StrsAt w' tv ts -> Calls Tryz.prog 201 #[.pointer (some ⟨gb, 0, none⟩), tv, .string node, .string (apartS way).B] w' (NPost w' lb)) :
  Calls Tryz.prog 201 #[.pointer (some ⟨gb, 0, none⟩), tv, .string node, .string way] w (NPost w (la ++ lb)) := by
 have hml : way.size <= maxLen := by unfold maxLen; omega
 have hnl : node.size <= maxLen := by unfold maxLen; omega
 have ha := fun w => apart_any way.size way w hml (Nat.le_refl _)
 change (∀ w, Calls Tryz.prog 199 #[.string way] w fun e w' => e = .returned (apartS way).val /\ Below w.heap.size w w') at ha
 obtain ⟨A0, Z0, O0, e1, e2, e3, h1, h2, hct⟩ := cut_gen node 35 hnl
 have HCH : Hid (∀ (w3 : World) (pb : Nat), w3.cell? ⟨pb, 2, none⟩ = some (.string (apartS way).B) -> Below w.heap.size w w3 -> Calls Tryz.prog 201 #[.pointer (some ⟨gb, 0, none⟩), tv, .string node, .string (apartS way).A] w3 _) := named_chain gb tv ts node _ _ la lb w ht hlen hIA hIB
 have htv : ∃ x n c, tv = .slice x n c := by
  rcases ht with ⟨rfl, -⟩ | ⟨b, off, cap, rfl, -⟩
  ·exact ⟨_, _, _, rfl⟩
  ·exact ⟨_, _, _, rfl⟩
 obtain ⟨tx, tn, tc, rfl⟩ := htv
 clear hIA hIB
 unfold Pt.val at ha
 generalize (apartS way).A = A at *
 generalize (apartS way).B = B at *
 generalize (apartS way).is = op at *
 have HCT : Hid (∀ w, Calls Tryz.prog 117 #[.string node, .int .u8 35] w fun e w' => e = .returned (.tuple #[.string A0, .string Z0, .bool O0]) /\ ∃ n, w' = w.drewN n) := hct
 have HA : Hid (∀ w, Calls Tryz.prog 199 #[.string way] w fun e w' => e = .returned (.agg #[.int .u8 op, .string A, .string B]) /\ Below w.heap.size w w') := ha
 clear ht hct ha e1 e2 e3 hml hnl
 rcases hop with rfl | rfl
 all_goals
  go_enter Tryz.func201, Tryz.ntmps201
  go_wp2_with (first | (go_at_call 117; refine (HCT.out _).mono ?_; rintro e w1 ⟨rfl, nq, rfl⟩) | (go_at_call 199; refine (HA.out _).mono ?_; rintro e w2 ⟨rfl, hb2⟩; have HB2 : Hid (Below w.heap.size w w2) := Below.trans (below_draw ⟨nq, rfl⟩) (hb2.mono (below_draw ⟨nq, rfl⟩).size)) | (go_at_call 201; refine (HCH.out _ w2.heap.size (row_cell (alloc_new w2 [.int .u8 _, .string A, .string B] _) (j := 2) rfl) (HB2.out.alloc HB2.out.size _)).mono ?_; rintro e w4 ⟨va, rfl, hp4, hnb⟩; have HNB : Hid (Calls Tryz.prog 201 #[.pointer (some ⟨gb, 0, none⟩), .slice tx tn tc, .string node, .string B] w4 _) := hnb; clear hnb HCH) | (go_at_call 201; refine HNB.out.mono ?_; rintro e w5 ⟨vb, rfl, v6, w6, hr6, v7, w7, hr7, HR⟩) | (at_builtin; refine wpList_app_run rfl (.tmp 44) (.tmp 45) 28 rfl _ _ _ rfl rfl hr6 ?_) | (at_builtin; refine wpList_app_run rfl (.tmp 47) (.tmp 48) 28 rfl _ _ _ rfl rfl hr7 ?_))
  go_ret
  exact HR.out
theorem apart_sum : ∀ (n : Nat) (s : ByteArray), s.size <= n -> ((apartS s).is = 124 \/ (apartS s).is = 38) -> (apartS s).A.size + (apartS s).B.size + 1 <= s.size := by
 intro n
 induction n with
 | zero =>
  intro s hs hop
  have := apart_size s.size s hop
  omega
 | succ n ih =>
  intro s hs hop
  rcases frame_cases s with h | ⟨-, -, -, ⟨ha, e⟩ | ⟨-, -, -, h2, e⟩ | ⟨-, e⟩⟩
  ·rw [h] at hop; omega
  ·rcases last_op s.data.toList sc0 0 (by decide) with ⟨h, -⟩ | ⟨A, op, B, hl, h, -, -⟩
   ·rw [h] at ha; exact absurd ha (by decide)
   ·rw [e, h]
    have hto : ((0 + A.length : Nat) : Int).toNat = A.length := by omega
    rw [hto, opS_parts s A B op hl]
    have hsz : s.size = A.length + (B.length + 1) := by rw [size_len, hl]; simp
    show (mk A).size + (mk B).size + 1 <= _
    rw [size_len, size_len]; simp [mk]; omega
  ·have hx : (s.extract 1 (s.size - 1)).size <= n := by simp only [ByteArray.size_extract]; omega
   have hx2 : (s.extract 1 (s.size - 1)).size <= s.size := by simp only [ByteArray.size_extract]; omega
   rw [e] at hop ⊢
   exact Nat.le_trans (ih _ hx hop) hx2
  ·have := plain_is s
   rw [e] at hop
   omega
theorem way_kind {f : Nat} {way : ByteArray} (hw : wayF f way = true) : ((apartS way).is = 116 \/ (apartS way).is = 114 \/ (apartS way).is = 97) \/ (((apartS way).is = 124 \/ (apartS way).is = 38) /\ ∃ g, f = g + 1 /\ wayF g (apartS way).A = true /\ wayF g (apartS way).B = true) := by
 by_cases hop : (apartS way).is = 124 \/ (apartS way).is = 38
 ·right
  cases f with
  | zero => rw [wayF, if_neg (by omega)] at hw; cases hw
  | succ g =>
   rw [wayF, if_neg (by omega), Bool.and_eq_true] at hw
   exact ⟨hop, g, rfl, hw.1, hw.2⟩
 ·left
  have h120 : (apartS way).is ≠ 120 := by
   cases f <;> (rw [wayF, if_pos (by omega)] at hw; exact of_decide_eq_true hw)
  rcases apart_kinds way.size way (Nat.le_refl _) with h | ⟨h, -⟩
  ·exact absurd h h120
  ·omega
theorem named_len (ts : List ByteArray) (node : ByteArray) (hl : ts.length <= 50) : ∀ (f : Nat) (way : ByteArray), wayF f way = true -> (namedF ts node f way).length <= 50 * (way.size + 1) := by
 intro f
 induction f with
 | zero =>
  intro way hw
  rw [namedF]
  have h1 := foldl_len nodeStep nodeStep_len (subjL ts node) []
  have h2 := subj_len node ts []
  have h3 := foldl_len (arrStep (apartS way).B) (arrStep_len _) (subjL ts (hashS (cutA node 35) (apartS way).A)) []
  have h4 := subj_len (hashS (cutA node 35) (apartS way).A) ts []
  unfold subjL at *
  simp only [List.length_nil, Nat.zero_add] at h1 h2 h3 h4
  split
  ·omega
  ·split
   ·simp; omega
   ·split
    ·omega
    ·simp
 | succ f ih =>
  intro way hw
  rw [namedF]
  have h1 := foldl_len nodeStep nodeStep_len (subjL ts node) []
  have h2 := subj_len node ts []
  have h3 := foldl_len (arrStep (apartS way).B) (arrStep_len _) (subjL ts (hashS (cutA node 35) (apartS way).A)) []
  have h4 := subj_len (hashS (cutA node 35) (apartS way).A) ts []
  unfold subjL at *
  simp only [List.length_nil, Nat.zero_add] at h1 h2 h3 h4
  split
  ·omega
  ·split
   ·simp; omega
   ·split
    ·omega
    ·rcases way_kind hw with h | ⟨hop, g, e, ha, hb⟩
     ·omega
     ·injection e with e
      subst e
      have h5 := ih _ ha
      have h6 := ih _ hb
      have h7 := apart_sum way.size way (Nat.le_refl _) hop
      rw [List.length_append]; omega
theorem named_any (gb : Nat) (tv : Value) (ts : List ByteArray) (node : ByteArray) (hn : node.size <= 140737488355328) (hl : ts.length <= 50) (hsz : ∀ x ∈ ts, x.size <= maxLen) (hsq : ∀ x ∈ ts, x.size <= 140737488355328) : ∀ (f : Nat) (way : ByteArray) (w : World), way.size <= 1000 -> wayF f way = true -> StrsAt w tv ts ->
  Calls Tryz.prog 201 #[.pointer (some ⟨gb, 0, none⟩), tv, .string node, .string way] w (NPost w (namedF ts node f way)) := by
 intro f
 induction f with
 | zero =>
  intro way w hs hw ht
  rcases way_kind hw with (h | h | h) | ⟨-, g, e, -⟩
  ·exact namedRef_this gb tv ts node way 0 w hs hn ht hl hsz h
  ·rcases apart_kinds way.size way (Nat.le_refl _) with h' | ⟨-, hA, -⟩
   ·omega
   ·exact named_rel gb tv ts node way 0 w hs hn ht h (by omega)
  ·rcases apart_kinds way.size way (Nat.le_refl _) with h' | ⟨-, hA, hB⟩
   ·omega
   ·exact named_arr gb tv ts node way 0 w hs hn ht hl hsz hsq h (by omega) (by omega)
  ·omega
 | succ f ih =>
  intro way w hs hw ht
  rcases way_kind hw with (h | h | h) | ⟨hop, g, e, ha, hb⟩
  ·exact namedRef_this gb tv ts node way _ w hs hn ht hl hsz h
  ·rcases apart_kinds way.size way (Nat.le_refl _) with h' | ⟨-, hA, -⟩
   ·omega
   ·exact named_rel gb tv ts node way _ w hs hn ht h (by omega)
  ·rcases apart_kinds way.size way (Nat.le_refl _) with h' | ⟨-, hA, hB⟩
   ·omega
   ·exact named_arr gb tv ts node way _ w hs hn ht hl hsz hsq h (by omega) (by omega)
  ·injection e with e
   subst e
   have h7 := apart_sum way.size way (Nat.le_refl _) hop
   have h5 := named_len ts node hl f _ ha
   have h6 := named_len ts node hl f _ hb
   have he : namedF ts node (f + 1) way = namedF ts node f (apartS way).A ++ namedF ts node f (apartS way).B := by
    rw [namedF, if_neg (by omega), if_neg (by omega), if_neg (by omega)]
   rw [he]
   exact named_two gb tv ts node way _ _ w hs hn ht hop (by omega) (fun w' hw' => ih _ w' (by omega) ha hw') (fun w' hw' => ih _ w' (by omega) hb hw')
end Go.Proofs.YtalmoiogbdahcaaGreat
