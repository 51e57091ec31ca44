import Derived.Test.YtalmoiogbdahcaaGreatTSetA
import Derived.Test.YtalmoiogbdahcaaGreatYRefI
import Derived.Test.YtalmoiogbdahcaaGreatYLibC
import Derived.Test.YtalmoiogbdahcaaGreatYLibF
namespace Go.Proofs.YtalmoiogbdahcaaGreat
set_option maxRecDepth 100000
set_option maxHeartbeats 8000000
open Go.RowKit
theorem owns_cells {w : World} {base g cap : Nat} {ys : List ByteArray} (h : w.ownsRow base 9 1 (.slice (some ⟨g, 0, none⟩) ys.length cap) ys.length (strV ys)) : ∀ i x, ys[i]? = some x -> w.cell? ⟨g, 0 + i, none⟩ = some (.string x) := by
 rcases owns_strs h with ⟨hv, -⟩ | ⟨b, off, cap', hv, hc⟩
 ·cases hv
 ·simp only [Value.slice.injEq, Option.some.injEq, Addr.mk.injEq] at hv
  obtain ⟨⟨rfl, rfl, -⟩, -, -⟩ := hv
  exact hc
theorem place_one {xs : List ByteArray} {t : ByteArray} {i j : Nat} (h : Place xs t i) (g : Place xs t j) : i = j := by
 have key : ∀ {i j : Nat}, Place xs t i -> Place xs t j -> ¬ i < j := by
  intro i j h g hij
  have hil : i < xs.length := by have := g.1; omega
  have hx : xs[i]? = some xs[i] := List.getElem?_eq_getElem hil
  have h1 := h.2.2 i _ (Nat.le_refl _) hx
  have h2 := g.2.1 i _ hij hx
  rw [h1] at h2; cases h2
 have := key h g
 have := key g h
 omega
theorem search_own {w : World} {base : Nat} {o : Value} {ys : List ByteArray} (h : w.ownsRow base 9 1 o ys.length (strV ys)) (hs : Sorted ys) (hl : ys.length <= 1000) {t : ByteArray} {i : Nat} (hp : Place ys t i) :
  Calls Tryz.prog 100 #[o, .string t] w fun e w' => e = .returned (.tuple #[.int .i64 i, .bool (decide (ys[i]? = some t))]) /\ w' = w := by
 rcases h.2 with ⟨rfl, h0⟩ | ⟨g, cap, cur, rfl, -⟩
 ·have hys : ys = [] := List.eq_nil_of_length_eq_zero h0
  subst hys
  have hi : i = 0 := by have := hp.1; simpa using this
  subst hi
  refine (search_nil t w).mono ?_
  rintro e w' ⟨rfl, hw⟩
  exact ⟨by simp, hw⟩
 ·refine (search_any g 0 cap ys t w (owns_cells h) hl (sorted_mono hs t)).mono ?_
  rintro e w' ⟨⟨j, rfl, hj⟩, hw⟩
  rw [place_one hj hp]
  exact ⟨rfl, hw⟩
structure CInv (w : World) (now xs : List ByteArray) (wr : World) (k : Nat) (o : Value) (ys : List ByteArray) : Prop where
 own : wr.ownsRow w.heap.size 9 1 o ys.length (strV ys)
 sorted : Sorted ys
 is : ys = (xs.take k).foldl doneS now
 len : ys.length <= 50 + k
 below : Below w.heap.size w wr
theorem CInv.step {w : World} {now xs : List ByteArray} {wr : World} {k : Nat} {o : Value} {ys : List ByteArray} (h : CInv w now xs wr k o ys) {x : ByteArray} (hx : xs[k]? = some x) {i : Nat} (hp : Place ys (x.extract 1 x.size) i) {wr' : World} {o' : Value} {zs : List ByteArray}
  (hz : zs = doneS ys x) (hown : wr'.ownsRow w.heap.size 9 1 o' zs.length (strV zs)) (hb : Below w.heap.size w wr') : CInv w now xs wr' (k + 1) o' zs := by
 refine ⟨hown, ?_, ?_, ?_, hb⟩
 ·rw [hz]; exact with_sorted h.sorted hp _
 ·obtain ⟨hk, he⟩ := List.getElem?_eq_some_iff.1 hx
  rw [List.take_succ_eq_append_getElem hk, he, List.foldl_append, ← h.is, hz]; rfl
 ·have := withL_len ys (x.extract 1 x.size) (decide (byteAt x 0 = 43))
  have h2 := h.len
  rw [hz]; unfold doneS; omega
theorem changed_any (tv : Value) (now xs : List ByteArray) (bb off cap : Nat) (w : World) (hnow : StrsAt w tv now) (hs : Sorted now) (hnl : now.length <= 50)
  (hxs : ∀ i x, xs[i]? = some x -> w.cell? ⟨bb, off + i, none⟩ = some (.string x)) (hxn : xs.length <= 20) (hsz : ∀ x ∈ xs, x.size <= 140737488355328) (hsign : ∀ x ∈ xs, x.size ≠ 0 /\ (byteAt x 0 = 43 \/ byteAt x 0 = 45)) :
  Calls Tryz.prog 54 #[tv, .slice (some ⟨bb, off, none⟩) xs.length cap] w fun e w' => ∃ v, e = .returned v /\ w'.ownsRow w.heap.size 9 1 v (xs.foldl doneS now).length (strV (xs.foldl doneS now)) /\ Below w.heap.size w w' := by
 have hcl : Calls Tryz.prog 49 #[tv] w fun e w' => ∃ v, e = .returned v /\ CInv w now xs w' 0 v now := by
  rcases hnow with ⟨rfl, rfl⟩ | ⟨b0, o0, c0, rfl, hc0⟩
  ·refine (clone_nil w).mono ?_
   rintro e w' ⟨rfl, rfl⟩
   exact ⟨_, rfl, World.ownsRow_nil _ _ _ _, hs, rfl, by omega, Below.refl _ _⟩
  ·refine (clone_any b0 o0 c0 now w hc0 (by omega)).mono ?_
   rintro e w' ⟨g, c, rfl, ho, hb⟩
   exact ⟨_, rfl, ho, hs, rfl, by omega, hb⟩
 clear hnow hs
 obtain ⟨n, hn⟩ : ∃ n, xs.length = n := ⟨_, rfl⟩
 have HX : Hid (xs.length = n) := hn
 rw [hn] at hxn ⊢
 clear hn
 go_enter Tryz.func54, Tryz.ntmps54
 go_wp2_with (go_at_call 49; refine hcl.mono ?_; clear hcl; rintro e w1 ⟨v1, rfl, hI1⟩)
 go_loopw [5, 16] (fun o i wr => ∃ (k : Nat) (ys : List ByteArray) (o' : Value), o' = o /\ k <= n /\ i = .int .i64 k /\ CInv w now xs wr k o' ys) (fun _ i _ => n - (intOf i).toNat)
 case atStart => exact ⟨0, now, _, rfl, Nat.zero_le _, rfl, hI1⟩
 case round =>
  obtain ⟨k, ys, o, rfl, hk, rfl, hI⟩ := hrel
  clear hI1
  have HI : Hid (CInv w now xs wr k o ys) := hI
  clear hI
  by_cases hlt : k < n
  ·have hkx : k < xs.length := by have := HX.out; omega
   obtain ⟨x, hx⟩ : ∃ x, xs[k] = x := ⟨_, rfl⟩
   have hkk : xs[k]? = some x := by rw [List.getElem?_eq_getElem hkx, hx]
   have hc0 := hxs k x hkk
   have hck : wr.cell? ⟨bb, off + k, none⟩ = some (.string x) := by rw [← hc0]; exact HI.out.below.cell (cell_lt hc0)
   have hxm : x ∈ xs := List.mem_of_getElem? hkk
   have hx0 : 1 <= x.size := by have := (hsign x hxm).1; omega
   have hxs2 : x.size <= 140737488355328 := hsz x hxm
   have HSG : Hid (byteAt x 0 = 43 \/ byteAt x 0 = 45) := (hsign x hxm).2
   have HKK : Hid (xs[k]? = some x) := hkk
   have HTS : Hid ((x.extract 1 x.size).size <= 140737488355328) := by show _ <= _; simp; omega
   have HLN : Hid (ys.length <= 70) := by have := HI.out.len; show _ <= _; omega
   clear hx hkk hc0 hxm hkx hxs hsz hsign
   have hidx : ∀ w, (Instr.index 9 (.string x) (.int .i64 0)).run Tryz.prog w = .ok (.int .u8 (byteAt x 0)) w := by
    intro w
    rw [run_index_string w _ x _ _ Tryz.underlying9, dif_pos (by omega), byteAt_eq x 0 (by omega)]; rfl
   have HD : Hid (doneS ys x = withL ys (x.extract 1 x.size) (decide (byteAt x 0 = 43))) := rfl
   have HCL : Hid (∀ w1, Calls Tryz.prog 102 #[.string (x.extract 1 x.size)] w1 fun e w' => e = .returned (.string (x.extract 1 x.size)) /\ Below w1.heap.size w1 w') := fun w1 => stringsClone_any _ w1 HTS.out
   obtain ⟨i, hp⟩ := place_ex HI.out.sorted (x.extract 1 x.size)
   have HP : Hid (Place ys (x.extract 1 x.size) i) := hp
   have HBS : Hid (∀ w1, Below wr.heap.size wr w1 -> Calls Tryz.prog 100 #[o, .string (x.extract 1 x.size)] w1 fun e w' => e = .returned (.tuple #[.int .i64 i, .bool (decide (ys[i]? = some (x.extract 1 x.size)))]) /\ w' = w1) := fun w1 hb => search_own (owns_below HI.out.own hb) HI.out.sorted (by have := HLN.out; omega) HP.out
   have hil : i <= 70 := by have := hp.1; have := HLN.out; omega
   have HWP := with_place HI.out.sorted hp (decide (byteAt x 0 = 43))
   rw [← HD.out] at HWP
   have HWP' : Hid (doneS ys x = _) := HWP
   clear HWP hp HD
   by_cases hth : ys[i]? = some (x.extract 1 x.size)
   ·rw [decide_eq_true hth] at HBS
    rw [if_pos hth] at HWP'
    rcases HSG.out with hc | hc
    ·rw [hc] at hidx HWP'
     go_wp2
     go_region
     go_wp2_with (go_at_call 100; refine (HBS.out _ (by repeat (first | exact Below.refl _ _ | refine Below.setCell ?_ (by first | exact Nat.le_refl _ | (simp; done) | (simp; omega)) _ | refine below_drewN ?_ _ | refine Below.drew ?_ | refine Below.alloc ?_ (by first | exact Nat.le_refl _ | (simp; done) | (simp; omega)) _))).mono ?_; rintro e w2 ⟨rfl, hw2⟩; subst w2)
     go_roundw
     case rel => exact ⟨k + 1, ys, o, rfl, by omega, by go_num, HI.out.step HKK.out HP.out (by rw [HWP'.out]; simp) (owns_below HI.out.own (by repeat (first | exact Below.refl _ _ | refine Below.setCell ?_ (by first | exact Nat.le_refl _ | (simp; done) | (simp; omega)) _ | refine below_drewN ?_ _ | refine Below.drew ?_ | refine Below.alloc ?_ (by first | exact Nat.le_refl _ | (simp; done) | (simp; omega)) _))) (HI.out.below.drew)⟩
     case measure => simp [intOf]; omega
    ·rw [hc] at hidx HWP'
     have hiy : i < ys.length := (List.getElem?_eq_some_iff.1 hth).1
     rcases HI.out.own.2 with ⟨rfl, h0⟩ | ⟨g, cp, cur, rfl, -, -, -, -, -, -⟩
     ·omega
     ·have HDL : Hid (∀ w1, Below wr.heap.size wr w1 -> Calls Tryz.prog 103 #[.slice (some ⟨g, 0, none⟩) ys.length cp, .int .i64 i, .int .i64 ((i : Int) + 1)] w1 fun e w' => e = .returned (.slice (some ⟨g, 0, none⟩) (ys.length - 1) cp) /\ w'.ownsRow w.heap.size 9 1 (.slice (some ⟨g, 0, none⟩) (ys.length - 1) cp) (ys.length - 1) (strV (delL ys i)) /\ w1.grownBy w' (some g)) := fun w1 hb => delete_any w1 w.heap.size g cp ys i hiy (owns_below HI.out.own hb)
      have HGL : Hid (w.heap.size <= g) := (owns_lt HI.out.own g rfl).2.1
      have HLD : Hid ((delL ys i).length = ys.length - 1) := by show _ = _; unfold delL; simp; omega
      clear hiy hth
      go_wp2
      go_region
      go_wp2_with (first | (go_at_call 100; refine (HBS.out _ (by repeat (first | exact Below.refl _ _ | refine Below.setCell ?_ (by first | exact Nat.le_refl _ | (simp; done) | (simp; omega)) _ | refine below_drewN ?_ _ | refine Below.drew ?_ | refine Below.alloc ?_ (by first | exact Nat.le_refl _ | (simp; done) | (simp; omega)) _))).mono ?_; rintro e w2 ⟨rfl, hw2⟩; subst w2) | (go_at_call 103; refine (HDL.out _ (by repeat (first | exact Below.refl _ _ | refine Below.setCell ?_ (by first | exact Nat.le_refl _ | (simp; done) | (simp; omega)) _ | refine below_drewN ?_ _ | refine Below.drew ?_ | refine Below.alloc ?_ (by first | exact Nat.le_refl _ | (simp; done) | (simp; omega)) _))).mono ?_; rintro e w3 ⟨rfl, ho3, hg3⟩; have HO3 : Hid (w3.ownsRow w.heap.size 9 1 (.slice (some ⟨g, 0, none⟩) (ys.length - 1) cp) (ys.length - 1) (strV (delL ys i))) := ho3; clear ho3))
      go_roundw
      case rel => exact ⟨k + 1, delL ys i, _, rfl, by omega, by go_num, HI.out.step HKK.out HP.out (by rw [HWP'.out]; simp) (by rw [HLD.out]; exact HO3.out) (HI.out.below.drew.grown hg3 HI.out.below.size (fun j hj => by injection hj with hj; rw [← hj]; exact HGL.out))⟩
      case measure => simp [intOf]; omega
   ·rw [decide_eq_false hth] at HBS
    rw [if_neg hth] at HWP'
    rcases HSG.out with hc | hc
    ·rw [hc] at hidx HWP'
     have HIN : Hid (∀ w1 vb, Below wr.heap.size wr w1 -> wr.heap.size <= vb -> w1.heap[vb]? = some (.cells [Value.string (x.extract 1 x.size)].toArray 9 (0, 0)) -> Calls Tryz.prog 101 #[o, .int .i64 i, .slice (some ⟨vb, 0, none⟩) 1 1] w1 (IPost w.heap.size o ys i (x.extract 1 x.size) w1)) := fun w1 vb hb hvb hc => insert_any w1 w.heap.size o ys i HP.out.1 _ vb (owns_below HI.out.own hb) (by have := HLN.out; omega) (Nat.le_trans HI.out.below.size hb.size) hc (fun e => by have := (owns_lt HI.out.own vb e).1; omega)
     have HOB : Hid (∀ j, o.ownBlock = some j -> w.heap.size <= j) := fun j hj => (owns_lt HI.out.own j hj).2.1
     clear hth
     go_wp2
     go_region
     go_wp2_with (first | (go_at_call 100; refine (HBS.out _ (by repeat (first | exact Below.refl _ _ | refine Below.setCell ?_ (by first | exact Nat.le_refl _ | (simp; done) | (simp; omega)) _ | refine below_drewN ?_ _ | refine Below.drew ?_ | refine Below.alloc ?_ (by first | exact Nat.le_refl _ | (simp; done) | (simp; omega)) _))).mono ?_; rintro e w2 ⟨rfl, hw2⟩; subst w2) | (go_at_call 102; refine (HCL.out _).mono ?_; rintro e w3 ⟨rfl, hb3⟩; have hbb : Below wr.heap.size wr w3 := Below.trans (by repeat (first | exact Below.refl _ _ | refine Below.setCell ?_ (by first | exact Nat.le_refl _ | (simp; done) | (simp; omega)) _ | refine below_drewN ?_ _ | refine Below.drew ?_ | refine Below.alloc ?_ (by first | exact Nat.le_refl _ | (simp; done) | (simp; omega)) _)) (hb3.mono (by simp))) | (go_at_call 101; refine (HIN.out _ w3.heap.size (hbb.alloc hbb.size _) hbb.size (alloc_new w3 [Value.string (x.extract 1 x.size)] _)).mono ?_; rintro e w4 ⟨g4, c4, rfl, ho4, hg4⟩; have HO4 : Hid (w4.ownsRow w.heap.size 9 1 (.slice (some ⟨g4, 0, none⟩) (ys.length + 1) c4) (ys.length + 1) (strV (insL ys i (x.extract 1 x.size)))) := ho4; clear ho4))
     go_roundw
     case rel => exact ⟨k + 1, insL ys i (x.extract 1 x.size), _, rfl, by omega, by go_num, HI.out.step HKK.out HP.out (by rw [HWP'.out]; simp) (by rw [insL_len]; exact HO4.out) (((HI.out.below.trans (hbb.mono HI.out.below.size)).alloc (Nat.le_trans HI.out.below.size hbb.size) _).grown hg4 (by simp; exact Nat.le_succ_of_le (Nat.le_trans HI.out.below.size hbb.size)) HOB.out)⟩
     case measure => simp [intOf]; omega
    ·rw [hc] at hidx HWP'
     clear hth
     go_wp2
     go_region
     go_wp2_with (go_at_call 100; refine (HBS.out _ (by repeat (first | exact Below.refl _ _ | refine Below.setCell ?_ (by first | exact Nat.le_refl _ | (simp; done) | (simp; omega)) _ | refine below_drewN ?_ _ | refine Below.drew ?_ | refine Below.alloc ?_ (by first | exact Nat.le_refl _ | (simp; done) | (simp; omega)) _))).mono ?_; rintro e w2 ⟨rfl, hw2⟩; subst w2)
     go_roundw
     case rel => exact ⟨k + 1, ys, o, rfl, by omega, by go_num, HI.out.step HKK.out HP.out (by rw [HWP'.out]; simp) (owns_below HI.out.own (by repeat (first | exact Below.refl _ _ | refine Below.setCell ?_ (by first | exact Nat.le_refl _ | (simp; done) | (simp; omega)) _ | refine below_drewN ?_ _ | refine Below.drew ?_ | refine Below.alloc ?_ (by first | exact Nat.le_refl _ | (simp; done) | (simp; omega)) _))) (HI.out.below.drew)⟩
     case measure => simp [intOf]; omega
  ·obtain rfl : k = n := by omega
   go_wp2
   go_ret
   have e : xs.foldl doneS now = ys := by
    have := HI.out.is
    rw [List.take_of_length_le (by have := HX.out; omega)] at this
    exact this.symm
   rw [e]
   exact ⟨_, rfl, HI.out.own, HI.out.below⟩
end Go.Proofs.YtalmoiogbdahcaaGreat
