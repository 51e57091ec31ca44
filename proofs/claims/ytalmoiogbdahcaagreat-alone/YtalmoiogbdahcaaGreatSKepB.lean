import Derived.Test.YtalmoiogbdahcaaGreatTRowA
import Derived.Test.YtalmoiogbdahcaaGreatTGhG
import Derived.ProofKit
import Derived.SizedLaws
import Derived.Deep.Slices
import Derived.Test.YtalmoiogbdahcaaGreatTKrlA
import Derived.Test.YtalmoiogbdahcaaGreatYRefH
import Derived.Test.YtalmoiogbdahcaaGreatYTieC0
import Derived.Test.YtalmoiogbdahcaaGreatTKepA
import Derived.Test.YtalmoiogbdahcaaGreatYRefE
import Derived.Test.YtalmoiogbdahcaaGreatYLawA
import Derived.Laws.IdiomStrings
import Derived.Test.YtalmoiogbdahcaaGreatTKrlB
import Derived.Test.YtalmoiogbdahcaaGreatTAskA
import Derived.Test.YtalmoiogbdahcaaGreatYSrtB
import Derived.Test.YtalmoiogbdahcaaGreatTKrlC
import Derived.Test.YtalmoiogbdahcaaGreatTGhE
import Derived.Test.YtalmoiogbdahcaaGreatTDskH
import Derived.Maps.AppendAt
import Derived.ChangeSlices
namespace Go.Proofs.YtalmoiogbdahcaaGreat
set_option maxRecDepth 100000
set_option maxHeartbeats 8000000
open Go.ChangeShapes Go.WideShapes Go.ChangeAt Go.RowKit Go.Deep
theorem Tryz.rIntCells : Tryz.prog.cellsOf 3 = 1 := by kernel_rfl
section
variable {H : Type} {enc : TypeId × Value -> H} {W : World}
instance : Inhabited OpR := ⟨⟨0, 0, 0, 0, ByteArray.empty, .slice none 0 0, []⟩⟩
end
end Go.Proofs.YtalmoiogbdahcaaGreat
namespace Go.Proofs.YtalmoiogbdahcaaGreat
set_option maxRecDepth 100000
set_option maxHeartbeats 8000000
open Go.RowKit
def trustedB : ByteArray := ⟨#[116, 114, 117, 115, 116, 101, 100]⟩
def editorB : ByteArray := ⟨#[101, 100, 105, 116, 111, 114]⟩
def bothB : ByteArray := ⟨#[98, 111, 116, 104]⟩
set_option maxRecDepth 100000
end Go.Proofs.YtalmoiogbdahcaaGreat
namespace Go.Proofs.YtalmoiogbdahcaaGreat
set_option maxRecDepth 100000
set_option maxHeartbeats 8000000
open Go.RowKit
theorem back_one (c : UInt8) (w : World) : (convert 71 9 (.slice (some ⟨w.heap.size, 0, none⟩) 1 1)).run Tryz.prog (w.alloc (.cells #[.int .u8 c.toNat] 5)) = .ok (.string ⟨#[c]⟩) (w.alloc (.cells #[.int .u8 c.toNat] 5)) :=
 run_convert_bytes_back (w.alloc (.cells #[.int .u8 c.toNat] 5)) 71 9 5 ⟨w.heap.size, 0, none⟩ 1 [c] Tryz.underlying71 Tryz.underlying5 Tryz.underlying9 (by
  intro j hj
  match j, hj with
  | 0, _ => simp [Addr.add])
theorem letter_any (n : Nat) (w : World) (hn : n <= 9223372036854775807) :
  Calls Tryz.prog 16 #[.int .i64 (n : Nat)] w fun e w' => e = .returned (.string (letS n)) /\ Below w.heap.size w w' := by
 have hm : n % 4 = 0 \/ n % 4 = 1 \/ n % 4 = 2 \/ n % 4 = 3 := by omega
 have ht : (n : Int).tmod 4 = ((n % 4 : Nat) : Int) := by rw [Int.tmod_eq_emod_of_nonneg (by omega)]; omega
 unfold letS
 rcases hm with h | h | h | h
 ·have hb := back_one 97 w
  rw [h] at ht ⊢
  change (convert 71 9 (.slice (some ⟨w.heap.size, 0, none⟩) 1 1)).run Tryz.prog (w.alloc (.cells #[.int .u8 97] 5)) = _ at hb
  clear h
  go_enter Tryz.func16, Tryz.ntmps16
  go_wp2
  go_ret
  exact ⟨rfl, (Below.refl _ _).alloc (Nat.le_refl _) _⟩
 ·have hb := back_one 98 w
  rw [h] at ht ⊢
  change (convert 71 9 (.slice (some ⟨w.heap.size, 0, none⟩) 1 1)).run Tryz.prog (w.alloc (.cells #[.int .u8 98] 5)) = _ at hb
  clear h
  go_enter Tryz.func16, Tryz.ntmps16
  go_wp2
  go_ret
  exact ⟨rfl, (Below.refl _ _).alloc (Nat.le_refl _) _⟩
 ·have hb := back_one 99 w
  rw [h] at ht ⊢
  change (convert 71 9 (.slice (some ⟨w.heap.size, 0, none⟩) 1 1)).run Tryz.prog (w.alloc (.cells #[.int .u8 99] 5)) = _ at hb
  clear h
  go_enter Tryz.func16, Tryz.ntmps16
  go_wp2
  go_ret
  exact ⟨rfl, (Below.refl _ _).alloc (Nat.le_refl _) _⟩
 ·have hb := back_one 100 w
  rw [h] at ht ⊢
  change (convert 71 9 (.slice (some ⟨w.heap.size, 0, none⟩) 1 1)).run Tryz.prog (w.alloc (.cells #[.int .u8 100] 5)) = _ at hb
  clear h
  go_enter Tryz.func16, Tryz.ntmps16
  go_wp2
  go_ret
  exact ⟨rfl, (Below.refl _ _).alloc (Nat.le_refl _) _⟩
end Go.Proofs.YtalmoiogbdahcaaGreat
namespace Go.Proofs.YtalmoiogbdahcaaGreat
set_option maxRecDepth 100000
set_option maxHeartbeats 8000000
open Go.RowKit
theorem letS_mod (n : Nat) : letS n = letS (n % 4) := by unfold letS; rw [Nat.mod_mod]
theorem kT_mod (k a b : Nat) : kT k a b = kT k (a % 4) (b % 4) := by unfold kT; rw [letS_mod a, letS_mod b]
theorem kT_fault0 : ∀ k, k < 9 -> ∀ a, a < 4 -> ∀ b, b < 4 -> faultS (ruleOfs krules) (⟨#[43]⟩ ++ kT k a b) = 0 /\ (⟨#[43]⟩ ++ kT k a b).size <= 100 := by decide +kernel
theorem kT_fault (k a b : Nat) (hk : k < 9) : faultS (ruleOfs krules) (⟨#[43]⟩ ++ kT k a b) = 0 /\ (⟨#[43]⟩ ++ kT k a b).size <= 100 := by
 rw [kT_mod]; exact kT_fault0 k hk _ (by omega) _ (by omega)
theorem plus_done (now : List ByteArray) (s : ByteArray) : doneS now (⟨#[43]⟩ ++ s) = withL now s true := by
 unfold doneS
 have e1 : (⟨#[43]⟩ ++ s : ByteArray).extract 1 (⟨#[43]⟩ ++ s : ByteArray).size = s := by
  refine ByteArray.ext (Array.ext' ?_)
  simp
  have h1 : ({ data := #[43] } : ByteArray).size = 1 := rfl
  rw [h1, List.take_of_length_le]
  rw [Array.length_toList]
  show s.size <= 1 + s.size - 1
  omega
 have e2 : byteAt (⟨#[43]⟩ ++ s) 0 = 43 := by
  unfold byteAt; simp
 rw [e1, e2]; rfl
end Go.Proofs.YtalmoiogbdahcaaGreat
namespace Go.Proofs.YtalmoiogbdahcaaGreat
set_option maxRecDepth 100000
set_option maxHeartbeats 8000000
open Go.RowKit
theorem KG.write1 {w : World} {B gb : Nat} {g : Pg} {m : List (Value × Value)} {lo : Nat} {xs now : List ByteArray} (h : KG w B gb g m lo xs now) (hv : g.ver <= 999999) {s : ByteArray} (hs : s.size <= 1000) (hf : faultS (ruleOfs xs) s = 0) (hl : (doneS now s).length <= 50) (hso : Sorted (doneS now s)) (bb cap : Nat) (hbb : bb ≠ gb) (hc : w.cell? ⟨bb, 0, none⟩ = some (.string s)) :
  Calls Tryz.prog 24 #[.pointer (some ⟨gb, 0, none⟩), .slice (some ⟨bb, 0, none⟩) 1 cap] w fun e w' => e = .returned (.tuple #[.int .i64 (g.ver + 1), .int .i64 0, .int .i64 0]) /\ w.grownBy w' (some gb) /\ ∃ v, (∀ j, v.ownBlock = some j -> w.heap.size <= j) /\ KG w' B gb { g with tv := v, ver := g.ver + 1 } m lo xs (doneS now s) := by
 have hnb := strT_ne h.tv h.pg (by decide)
 obtain ⟨es, cl, hm1, hm2, hm3, hm4⟩ := h.map
 have hfs : ∀ s, faultG m s = faultS (ruleOfs xs) s := fun s => fault_same h.rmap hm4 h.okx s
 have key := ghWrite_open gb g m (ruleOfs xs) now [s] bb 0 cap w h.pg h.lk h.cl h.rmap.ways h.map hfs h.tv.strs h.sorted h.nl hnb (fun i x hx => by
  match i, hx with
  | 0, hx => simp at hx; rw [← hx, Nat.zero_add]; exact hc) hbb (by simp) (fun x hx => by simp at hx; rw [hx]; omega) ⟨h.ver0, by have := h.verV; omega⟩
 refine key.mono ?_
 intro e w' hp
 have e1 : batchL (ruleOfs xs) now 0 [s] = .inr (doneS now s) := by rw [batchL, if_pos hf, batchL]
 rw [e1] at hp
 obtain ⟨hk, hp⟩ := hp
 dsimp only at hp
 rw [if_neg (by omega)] at hp
 obtain ⟨v, rfl, hpg, hown⟩ := hp
 have sk : SK (onlyB gb) w w' := SK.gate hk (cs := g.cells) h.pg (by decide) rfl
 refine ⟨rfl, hk, v, fun j hj => (owns_lt hown j hj).2.1, hpg, sk.mapAt h.map, sk.rmap h.rmap, h.okx, h.few, owns_strT hown, hso, hl, ?_, h.lk, h.cl, by show 0 <= g.ver + 1; have := h.ver0; omega, by show g.ver + 1 <= 1000000; omega, h.gB⟩
 exact batch_good _ _ _ _ _ h.tup e1
theorem kept_then {w wr w2 w3 : World} {gb : Nat} (h : w.grownBy wr (some gb)) (hb : Below wr.heap.size wr w2) (hk : w2.grownBy w3 (some gb)) : w.grownBy w3 (some gb) :=
 ⟨hk.os.trans (hb.os.trans h.os), hk.tape.trans (hb.tape.trans h.tape), hk.output.trans (hb.output.trans h.output), Nat.le_trans h.size (Nat.le_trans hb.size hk.size), fun k hkl hne => by
  have h1 := h.block k hkl hne
  have h2 := hb.block k (Nat.lt_of_lt_of_le hkl h.size)
  have h3 := hk.block k (Nat.lt_of_lt_of_le hkl (Nat.le_trans h.size hb.size)) hne
  rw [h3, h2, h1]⟩
theorem kept_row {w w3 w4 : World} {gb : Nat} {lv : Value} {n : Nat} {us : List Value} (h : w.grownBy w3 (some gb)) (hg : w3.grownBy w4 lv.ownBlock) (hrow : w3.ownsRow w.heap.size 9 1 lv n us) : w.grownBy w4 (some gb) :=
 ⟨hg.os.trans h.os, hg.tape.trans h.tape, hg.output.trans h.output, Nat.le_trans h.size hg.size, fun k hkl hne => by
  have h1 := h.block k hkl hne
  have h2 := hg.block k (Nat.lt_of_lt_of_le hkl h.size) (fun e => by have := (owns_lt hrow k e.symm).2.1; omega)
  rw [h2, h1]⟩
theorem kg_grown {w3 w4 : World} {B gb : Nat} {g : Pg} {m : List (Value × Value)} {lo base n : Nat} {us : List Value} {xs now : List ByteArray} {lv : Value} (h : KG w3 B gb g m lo xs now) (hg : w3.grownBy w4 lv.ownBlock) (hrow : w3.ownsRow base 9 1 lv n us) (hne : ∀ j, lv.ownBlock = some j -> g.tv.ownBlock ≠ some j) : KG w4 B gb g m lo xs now := by
 have hblk : ∀ (k : Nat) (o : Obj), w3.heap[k]? = some o -> (∀ cur : Array Value, o ≠ .cells cur 9 (0, 0)) -> w4.heap[k]? = w3.heap[k]? := by
  intro k o hk ho
  refine hg.block k (row_lt hk) fun e => ?_
  obtain ⟨-, -, cur, hc⟩ := owns_lt hrow k e.symm
  rw [hk] at hc
  injection hc with hc
  exact ho cur hc
 refine { h with pg := ?_, map := ?_, rmap := ?_, tv := ?_ }
 ·exact (hblk _ _ h.pg (by intro cur e; injection e with _ e; revert e; decide)).trans h.pg
 ·obtain ⟨es, cl, h1, -⟩ := h.map
  exact h.map.move (hblk _ _ h1 (by intro cur e; cases e))
 ·exact h.rmap.move fun k cur _ hc => hblk k _ hc (by intro cur' e; injection e with _ e; revert e; decide)
 ·rcases h.tv with e | ⟨b, cap, cur, h1, h2, h3⟩
  ·exact Or.inl e
  ·refine Or.inr ⟨b, cap, cur, h1, ?_, h3⟩
   rw [hg.block b (row_lt h2) ?_]
   ·exact h2
   ·intro e
    exact hne b e.symm (by rw [h1]; rfl)
end Go.Proofs.YtalmoiogbdahcaaGreat
namespace Go.Proofs.YtalmoiogbdahcaaGreat
set_option maxRecDepth 100000
set_option maxHeartbeats 8000000
open Go.RowKit Go.Shelf
theorem gateRead_any {U xs now : List ByteArray} {b : Nat} {g : Pg} {w : World} (h : GateQ U xs now b g w) (s : ByteArray) (hs : s.size <= maxLen) (hO : okNd (queX s)) :
  Calls Tryz.prog 41 #[.pointer (some ⟨b, 0, none⟩), .string s] w fun e w' => e = .returned (.tuple #[askV xs s, .int .i64 (askE xs s)]) /\ Below w.heap.size w w' := by
 have hrq := fun w1 => readQuestion_any s w1 hs
 cases hok : queOk s
 ·rw [hok, queVal_no hok] at hrq
  have HV : Hid (askV xs s = zeroQ /\ askE xs s = 4) := by
   have e : askE xs s = 4 := if_pos hok
   refine ⟨?_, e⟩
   unfold askV; rw [e]; exact if_neg (by decide)
  obtain ⟨v1, v2⟩ := HV.out
  rw [v1, v2]
  unfold zeroQ
  clear h hs hO hok HV v1 v2
  go_enter Tryz.func41, Tryz.ntmps41
  go_wp2_with (go_at_call 45; refine (hrq _).mono ?_; rintro e w1 ⟨rfl, hb1⟩; have hz1 : w.heap.size < w1.heap.size := (by have := hb1.size; simp at this; omega); have hc0 := fun o => hb1.cell (p := ⟨w.heap.size, o, none⟩) (by simp); have hf0 := fun o => hb1.frozen (p := ⟨w.heap.size, o, none⟩) (by simp); have hn0 : ¬ w.heap.size = w1.heap.size := (by omega); have hn1 : ¬ w1.heap.size = w.heap.size := (by omega))
  have hB1 : Below w.heap.size w w1 := ((Below.refl w.heap.size w).alloc (Nat.le_refl _) _).trans (hb1.mono (by simp))
  refine bodyPost_ret (v := .tuple #[.agg #[.string noneB, .string noneB, .string noneB, .string noneB, .string noneB, .string noneB], .int .i64 4]) (by simp [results, Tryz.results41, go_sem, hc0, hz1, noneB]) rfl ⟨rfl, ?_⟩
  refine Below.alloc ?_ (by simp; omega) _
  refine Below.setCell ?_ (by simp) _
  refine Below.setCell ?_ (by simp) _
  refine Below.setCell ?_ (by simp) _
  refine Below.setCell ?_ (by simp) _
  refine Below.setCell ?_ (by simp) _
  refine Below.setCell ?_ (by simp) _
  exact hB1
 ·rw [hok, queVal_yes hok] at hrq
  have HRU : Hid (∀ w1, Below w.heap.size w w1 -> Calls Tryz.prog 47 #[.pointer (some ⟨b, 0, none⟩), .agg #[.string (queX s).k, .string (queX s).n, .string (queX s).r]] w1 fun e w' => e = .returned (.bool (hasR xs (queX s))) /\ Below w1.heap.size w1 w') := fun w1 hb => hasR_any (h.to hb.block) hO
  cases hr : hasR xs (queX s)
  ·rw [hr] at HRU
   have HV : Hid (askV xs s = zeroQ /\ askE xs s = 5) := by
    have e : askE xs s = 5 := by unfold askE; rw [hok, hr]; rfl
    refine ⟨?_, e⟩
    unfold askV; rw [e]; exact if_neg (by decide)
   obtain ⟨v1, v2⟩ := HV.out
   rw [v1, v2]
   unfold zeroQ
   generalize queX s = x at *
   generalize queY s = y at *
   clear h hs hO hok HV v1 v2 hr
   go_enter Tryz.func41, Tryz.ntmps41
   go_wp2_with (first | (go_at_call 45; refine (hrq _).mono ?_; rintro e w1 ⟨rfl, hb1⟩; have hz1 : w.heap.size < w1.heap.size := (by have := hb1.size; simp at this; omega); have hn0 : ¬ w.heap.size = w1.heap.size := (by omega); have hn1 : ¬ w1.heap.size = w.heap.size := (by omega); have hB1 : Below w.heap.size w w1 := ((Below.refl w.heap.size w).alloc (Nat.le_refl _) _).trans (hb1.mono (by simp))) | (go_at_call 47; refine (HRU.out _ (hB1.alloc hB1.size _)).mono ?_; rintro e w2 ⟨rfl, hb2⟩; have hz2 : w.heap.size < w2.heap.size := (by have := hb2.size; simp at this; omega); have hb12 : Below (w.heap.size + 1) _ w2 := ((hb1.mono (by simp)).trans ((((Below.refl (w.heap.size + 1) w1).alloc (by omega) _).trans (hb2.mono (by simp; omega))))); have hc0 := fun o => hb12.cell (p := ⟨w.heap.size, o, none⟩) (by simp); have hf0 := fun o => hb12.frozen (p := ⟨w.heap.size, o, none⟩) (by simp)))
   have hB2 : Below w.heap.size w w2 := (hB1.alloc hB1.size _).trans (hb2.mono (by simp; omega))
   refine bodyPost_ret (v := .tuple #[.agg #[.string noneB, .string noneB, .string noneB, .string noneB, .string noneB, .string noneB], .int .i64 5]) (by simp [results, Tryz.results41, go_sem, hc0, noneB]) rfl ⟨rfl, ?_⟩
   refine Below.setCell ?_ (by simp) _
   refine Below.setCell ?_ (by simp) _
   refine Below.setCell ?_ (by simp) _
   refine Below.setCell ?_ (by simp) _
   refine Below.setCell ?_ (by simp) _
   refine Below.setCell ?_ (by simp) _
   exact hB2
  ·rw [hr] at HRU
   have HV : Hid (askV xs s = .agg #[.string (queX s).k, .string (queX s).n, .string (queX s).r, .string (queY s).k, .string (queY s).n, .string (queY s).r] /\ askE xs s = 0) := by
    have e : askE xs s = 0 := by unfold askE; rw [hok, hr]; rfl
    refine ⟨?_, e⟩
    unfold askV; rw [e]; exact if_pos rfl
   obtain ⟨v1, v2⟩ := HV.out
   rw [v1, v2]
   clear HV v1 v2 hO
   generalize queX s = x at *
   generalize queY s = y at *
   clear h hs hok hr
   go_enter Tryz.func41, Tryz.ntmps41
   go_wp2_with (first | (go_at_call 45; refine (hrq _).mono ?_; rintro e w1 ⟨rfl, hb1⟩; have hz1 : w.heap.size < w1.heap.size := (by have := hb1.size; simp at this; omega); have hn0 : ¬ w.heap.size = w1.heap.size := (by omega); have hn1 : ¬ w1.heap.size = w.heap.size := (by omega); have hB1 : Below w.heap.size w w1 := ((Below.refl w.heap.size w).alloc (Nat.le_refl _) _).trans (hb1.mono (by simp))) | (go_at_call 47; refine (HRU.out _ (hB1.alloc hB1.size _)).mono ?_; rintro e w2 ⟨rfl, hb2⟩; have hz2 : w.heap.size < w2.heap.size := (by have := hb2.size; simp at this; omega); have hb12 : Below (w.heap.size + 1) _ w2 := ((hb1.mono (by simp)).trans ((((Below.refl (w.heap.size + 1) w1).alloc (by omega) _).trans (hb2.mono (by simp; omega))))); have hc0 := fun o => hb12.cell (p := ⟨w.heap.size, o, none⟩) (by simp); have hf0 := fun o => hb12.frozen (p := ⟨w.heap.size, o, none⟩) (by simp); have hc1 := fun o => hb2.cell (p := ⟨w1.heap.size, o, none⟩) (by simp)))
   have hB2 : Below w.heap.size w w2 := (hB1.alloc hB1.size _).trans (hb2.mono (by simp; omega))
   refine bodyPost_ret (v := .tuple #[.agg #[.string x.k, .string x.n, .string x.r, .string y.k, .string y.n, .string y.r], .int .i64 0]) (by simp [results, Tryz.results41, go_sem, hc0]) rfl ⟨rfl, ?_⟩
   refine Below.setCell ?_ (by simp) _
   refine Below.setCell ?_ (by simp) _
   refine Below.setCell ?_ (by simp) _
   refine Below.setCell ?_ (by simp) _
   refine Below.setCell ?_ (by simp) _
   refine Below.setCell ?_ (by simp) _
   exact hB2
def CostP (xs now : List ByteArray) (s : ByteArray) (w : World) (e : Ending) (w' : World) : Prop :=
 ∃ k : Nat, e = .returned (.tuple #[.int .i64 k, .int .i64 (askE xs s)]) /\ Below w.heap.size w w' /\ if askE xs s = 0 then ∃ met : List Nod, k = met.length /\ met.Nodup /\ (∀ y, y ∈ met ↔ Rch (tsOf now) (ruleN xs) (queX s) y) /\ met.length <= 32000000 else k = 0
theorem cost_any (HN : Hid NodeC) (HW : Hid TWayC) {U xs now : List ByteArray} {b : Nat} {g : Pg} {w : World} (h : GateQ U xs now b g w) (s : ByteArray) (hs : s.size <= maxLen) (hQ : queOk s = true -> hasR xs (queX s) = true -> QueOk U s) (hO : okNd (queX s)) :
  Calls Tryz.prog 20 #[.pointer (some ⟨b, 0, none⟩), .string s] w (CostP xs now s w) := by
 have hrd := gateRead_any h s hs hO
 by_cases he : askE xs s = 0
 ·have hok : queOk s = true := by
   cases e : queOk s
   ·have : askE xs s = 4 := if_pos e
    rw [he] at this; cases this
   ·rfl
  have hr : hasR xs (queX s) = true := by
   cases e : hasR xs (queX s)
   ·have : askE xs s = 5 := by unfold askE; rw [hok, e]; rfl
    rw [he] at this; cases this
   ·rfl
  have hv : askV xs s = .agg #[.string (queX s).k, .string (queX s).n, .string (queX s).r, .string (queY s).k, .string (queY s).n, .string (queY s).r] := if_pos he
  rw [hv, he] at hrd
  have q := hQ hok hr
  have HAQ : Hid (∀ (wq : World) (qb : Nat), Below w.heap.size w wq -> wq.heap[qb]? = some (.cells (queL (queX s) (queY s)).toArray 77 (0, 0)) -> Calls Tryz.prog 42 #[.pointer (some ⟨b, 0, none⟩)] wq fun e w1 => ∃ tb, e = .returned (.pointer (some ⟨tb, 0, none⟩)) /\ w1.heap[qb]? = some (.cells (queL (queX s) (queY s)).toArray 77 (0, 0)) /\ Hid (∀ w1', Below w1.heap.size w1 w1' -> Calls Tryz.prog 43 #[.pointer (some ⟨tb, 0, none⟩), .agg #[.string (queX s).k, .string (queX s).n, .string (queX s).r]] w1' fun e w2 => ∃ wb, e = .returned (.pointer (some ⟨wb, 0, none⟩)) /\ Hid (∀ w2', Below w2.heap.size w2 w2' -> Calls Tryz.prog 44 #[.pointer (some ⟨wb, 0, none⟩)] w2' fun e w' => ∃ k : Nat, e = .returned (.int .i64 k) /\ CostP xs now s w (.returned (.tuple #[.int .i64 k, .int .i64 0])) w'))) := by
   intro wq qb hb hq
   refine (ask_q HN HW (h.to hb.block) q.ok q.th q.rU hq).mono ?_
   rintro e w1 ⟨tb, he1, hq1, HC⟩
   refine ⟨tb, he1, hq1, ?_⟩
   intro w1' hb1
   refine (HC.out w1' hb1).mono ?_
   rintro e w2 ⟨wb, he2, hq2, hA⟩
   refine ⟨wb, he2, ?_⟩
   intro w2' hb2
   refine (hA.out.cost w2' hb2).mono ?_
   rintro e w' ⟨met, he3, hnd, hm, hml, hbw⟩
   exact ⟨met.length, he3, met.length, by rw [he], hb.trans (hbw.mono hb.size), by rw [if_pos he]; exact ⟨met, rfl, hnd, hm, hml⟩⟩
  generalize CostP xs now s w = P at *
  clear q hQ hO hv
  generalize queX s = x at *
  generalize queY s = y at *
  clear h hs hok HN HW hr he
  go_enter Tryz.func20, Tryz.ntmps20
  go_wp2_with (go_at_call 41; refine hrd.mono ?_; rintro e w1 ⟨rfl, hb1⟩)
  have hb3 : Below w.heap.size w (w1.alloc (.cells #[.string x.k, .string x.n, .string x.r, .string y.k, .string y.n, .string y.r] 77)) := hb1.alloc hb1.size _
  have hq3 : (w1.alloc (.cells #[.string x.k, .string x.n, .string x.r, .string y.k, .string y.n, .string y.r] 77)).heap[w1.heap.size]? = some (.cells (queL x y).toArray 77 (0, 0)) := alloc_new w1 (queL x y) _
  obtain ⟨w3, hw3⟩ : ∃ w3, w1.alloc (.cells #[.string x.k, .string x.n, .string x.r, .string y.k, .string y.n, .string y.r] 77) = w3 := ⟨_, rfl⟩
  rw [hw3] at hb3 hq3 ⊢
  have HNW : Hid _ := HAQ.out w3.drew w1.heap.size hb3.drew hq3
  have l0 : w3.drew.cell? ⟨w1.heap.size, 0, none⟩ = some (.string x.k) := row_cell hq3 (j := 0) rfl
  have l1 : w3.drew.cell? ⟨w1.heap.size, 1, none⟩ = some (.string x.n) := row_cell hq3 (j := 1) rfl
  have l2 : w3.drew.cell? ⟨w1.heap.size, 2, none⟩ = some (.string x.r) := row_cell hq3 (j := 2) rfl
  clear HAQ hq3 hb3 hb1 hrd hw3
  go_region_with (first | (go_at_call 42; refine (Calls.mono HNW.out) ?_; rintro e w4 ⟨tb, rfl, hq4, HWK⟩; have m0 := row_cell hq4 (j := 0) rfl; have m1 := row_cell hq4 (j := 1) rfl; have m2 := row_cell hq4 (j := 2) rfl; clear hq4) | (go_at_call 43; refine (HWK.out _ (by repeat (first | exact Below.refl _ _ | refine Below.setCell ?_ (by first | exact Nat.le_refl _ | (simp; done) | (simp; omega)) _ | refine below_drewN ?_ _ | refine Below.drew ?_ | refine Below.alloc ?_ (by first | exact Nat.le_refl _ | (simp; done) | (simp; omega)) _))).mono ?_; rintro e w5 ⟨wb, rfl, HWH⟩) | (go_at_call 44; refine (HWH.out _ (by repeat (first | exact Below.refl _ _ | refine Below.setCell ?_ (by first | exact Nat.le_refl _ | (simp; done) | (simp; omega)) _ | refine below_drewN ?_ _ | refine Below.drew ?_ | refine Below.alloc ?_ (by first | exact Nat.le_refl _ | (simp; done) | (simp; omega)) _))).mono ?_; rintro e w6 ⟨k, rfl, hp⟩))
  all_goals go_wp2
  all_goals exact bodyPost_ret (v := .tuple #[.int .i64 k, .int .i64 0]) (by simp [results, Tryz.results20, go_sem]) rfl hp
 ·have hv : askV xs s = zeroQ := if_neg he
  rw [hv] at hrd
  unfold zeroQ at hrd
  have hne : (askE xs s != 0) = true := by simpa using he
  have HP : Hid (∀ w', Below w.heap.size w w' -> CostP xs now s w (.returned (.tuple #[.int .i64 0, .int .i64 (askE xs s)])) w') := fun w' hb => ⟨0, rfl, hb, by rw [if_neg he]⟩
  generalize CostP xs now s w = P at *
  generalize askE xs s = er at *
  clear h hs hQ hO HN HW hv he
  go_enter Tryz.func20, Tryz.ntmps20
  go_wp2_with (go_at_call 41; refine hrd.mono ?_; rintro e w1 ⟨rfl, hb1⟩)
  exact HP.out _ (hb1.alloc hb1.size _)
theorem sorted_nodup {l : List ByteArray} (h : Sorted l) : l.Nodup := List.Pairwise.imp (fun h e => by subst e; rw [ltB_irrefl] at h; cases h) h
theorem mem_with {l : List ByteArray} (hs : Sorted l) (x s : ByteArray) : s ∈ withL l x true ↔ s ∈ l \/ s = x := by
 obtain ⟨i, hp⟩ := place_ex hs x
 rw [with_place hs hp]
 split
 ·rename_i e
  rw [if_pos rfl]
  constructor
  ·exact Or.inl
  ·rintro (h | h)
   ·exact h
   ·rw [h]; exact List.mem_of_getElem? e
 ·rw [if_pos rfl]
  unfold insL
  constructor
  ·intro h
   rcases List.mem_append.1 h with h | h
   ·exact Or.inl (List.mem_of_mem_take h)
   ·rcases List.mem_cons.1 h with h | h
    ·exact Or.inr h
    ·exact Or.inl (List.mem_of_mem_drop h)
  ·rintro (h | h)
   ·rw [← List.take_append_drop i l] at h
    rcases List.mem_append.1 h with h | h
    ·exact List.mem_append_left _ h
    ·exact List.mem_append_right _ (List.mem_cons_of_mem _ h)
   ·rw [h]; exact List.mem_append_right _ (List.mem_cons_self ..)
end Go.Proofs.YtalmoiogbdahcaaGreat
namespace Go.Proofs.YtalmoiogbdahcaaGreat
set_option maxRecDepth 100000
set_option maxHeartbeats 8000000
open Go.RowKit
theorem rem_nat (v : Nat) (k : Nat) : (v : Int).tmod k = ((v % k : Nat) : Int) := by
 rw [Int.tmod_eq_emod_of_nonneg (by omega)]; omega
theorem quo_nat (v : Nat) (k : Nat) : (v : Int).tdiv k = ((v / k : Nat) : Int) := by
 rw [Int.tdiv_eq_ediv_of_nonneg (by omega)]; omega
theorem letS_size (n : Nat) : (letS n).size = 1 := rfl
theorem wrap_small {n : Int} (h : 0 <= n) (h2 : n <= 1099511627776) : wrap64 n = n := by
 unfold wrap64; omega
theorem kTuple_k (c : Int) (v k : Nat) (w : World) (hp : Calls Tryz.prog 17 #[.int .i64 c, .int .i64 1099511627776] w fun e w' => e = .returned (.int .i64 (v : Nat)) /\ w' = w) (hk : k < 9) (hm : v % 9 = k) (hv : v <= 1099511627776) :
  Calls Tryz.prog 39 #[.int .i64 c] w fun e w' => e = .returned (.string (kT k (v / 16) (v / 64))) /\ Below w.heap.size w w' := by
 have q16 : (v : Int).tdiv 16 = ((v / 16 : Nat) : Int) := quo_nat v 16
 have q64 : (v : Int).tdiv 64 = ((v / 64 : Nat) : Int) := quo_nat v 64
 have r9 : (v : Int).tmod 9 = ((v % 9 : Nat) : Int) := rem_nat v 9
 have HA : Hid (∀ w1, Calls Tryz.prog 16 #[.int .i64 ((v / 16 : Nat) : Int)] w1 fun e w' => e = .returned (.string (letS (v / 16))) /\ Below w1.heap.size w1 w') := fun w1 => letter_any (v / 16) w1 (by omega)
 have HB : Hid (∀ w1, Calls Tryz.prog 16 #[.int .i64 ((v / 64 : Nat) : Int)] w1 fun e w' => e = .returned (.string (letS (v / 64))) /\ Below w1.heap.size w1 w') := fun w1 => letter_any (v / 64) w1 (by omega)
 have sa := letS_size (v / 16)
 have sb := letS_size (v / 64)
 have w16 : wrap64 ((v / 16 : Nat) : Int) = ((v / 16 : Nat) : Int) := wrap_small (by omega) (by omega)
 have w64 : wrap64 ((v / 64 : Nat) : Int) = ((v / 64 : Nat) : Int) := wrap_small (by omega) (by omega)
 have HT : Hid (kT k (v / 16) (v / 64) = kPre k ++ letS (v / 16) ++ kMid k ++ letS (v / 64) ++ kEnd k) := rfl
 rw [hm] at r9
 generalize kT k (v / 16) (v / 64) = T at *
 generalize letS (v / 16) = la at *
 generalize letS (v / 64) = lb at *
 generalize ((v / 16 : Nat) : Int) = n16 at *
 generalize ((v / 64 : Nat) : Int) = n64 at *
 clear hm
 have hcs : k = 0 \/ k = 1 \/ k = 2 \/ k = 3 \/ k = 4 \/ k = 5 \/ k = 6 \/ k = 7 \/ k = 8 := by omega
 clear hk
 rcases hcs with rfl | rfl | rfl | rfl | rfl | rfl | rfl | rfl | rfl
 all_goals
  go_enter Tryz.func39, Tryz.ntmps39
  go_wp2_with (first | (go_at_call 17; refine hp.mono ?_; rintro e w1 ⟨rfl, rfl⟩) | (go_at_call 16; refine (HA.out _).mono ?_; rintro e w2 ⟨rfl, hb2⟩; clear HA) | (go_at_call 16; refine (HB.out _).mono ?_; rintro e w3 ⟨rfl, hb3⟩))
  go_ret
  refine ⟨?_, hb2.trans (hb3.mono hb2.size)⟩
  rw [HT.out]
  first
  | rfl
  | (refine congrArg (fun s => Ending.returned (Value.string s)) ?_
     exact (ByteArray.append_empty ..).symm)
open Go.RowKit Go.Shelf
def ndT (x : Nod) : ByteArray := x.k ++ ⟨#[58]⟩ ++ x.n ++ ⟨#[35]⟩ ++ x.r
theorem ndT_mk (k n r : List UInt8) : ndT ⟨mk k, mk n, mk r⟩ = mk (k ++ 58 :: (n ++ 35 :: r)) := by
 refine bytes_ext ?_
 unfold ndT
 simp [mk]
theorem thT_mk (k n : List UInt8) (q : ByteArray) : thT ⟨mk k, mk n, q⟩ = mk (k ++ 58 :: n) := bytes_ext (thT_list k n [])
structure NmN (x : Nod) (k n : List UInt8) (o : Option (List UInt8)) : Prop where
 e : x = ⟨mk k, mk n, orel o⟩
 hk : nameL k = true
 hn : nameL n = true
 ho : ∀ r, o = some r -> nameL r = true
def txT (x : Nod) : ByteArray := if x.isTh = true then thT x else ndT x
theorem nmN_th {x : Nod} {k n : List UInt8} {o : Option (List UInt8)} (h : NmN x k n o) : x.isTh = true ↔ o = none := by
 rw [h.e]
 cases o with
 | none => simp [Nod.isTh, orel, noneB]
 | some r => simp [Nod.isTh, orel]; exact decide_eq_false (nameL_pos (h.ho r rfl))
theorem nmN_txt {x : Nod} {k n : List UInt8} {o : Option (List UInt8)} (h : NmN x k n o) : txT x = mk (k ++ 58 :: (n ++ otail o)) := by
 unfold txT
 cases o with
 | none => rw [if_pos ((nmN_th h).2 rfl), h.e, thT_mk]; simp [otail]
 | some r =>
  rw [if_neg (fun e => by have := (nmN_th h).1 e; cases this), h.e]
  show ndT ⟨mk k, mk n, mk r⟩ = _
  rw [ndT_mk]; rfl
def tupT (x y : Nod) : ByteArray := txT x ++ ⟨#[64]⟩ ++ txT y
theorem tupT_mk {x y : Nod} {k n r k2 n2 : List UInt8} {o : Option (List UInt8)} (hx : NmN x k n (some r)) (hy : NmN y k2 n2 o) : tupT x y = mk (k ++ 58 :: (n ++ 35 :: (r ++ 64 :: (k2 ++ 58 :: (n2 ++ otail o))))) := by
 unfold tupT
 rw [nmN_txt hx, nmN_txt hy]
 refine bytes_ext ?_
 simp [mk, otail]
theorem app_strF (w : World) (base : Nat) (v : Value) (n : Nat) (xs : List ByteArray) (x : ByteArray) (hown : w.ownsRow base 9 1 v n (strV xs)) (hb : base <= w.heap.size) (hl : n <= 1099511627776) :
  ∃ v' w', (Builtin.append_ #[28, 28] 28 #[v, .slice (some ⟨w.heap.size, 0, none⟩) 1 1]).run Tryz.prog (w.alloc (.cells #[.string x] 9)) = .ok v' w' /\
   w'.ownsRow base 9 1 v' (n + 1) (strV (xs ++ [x])) /\ w.grownBy w' v.ownBlock /\ (v'.ownBlock = v.ownBlock \/ v'.ownBlock = some (w.heap.size + 1)) := by
 obtain ⟨i, hi, hz, hs, hby⟩ := info_str
 obtain ⟨v', w', hr, h2, h3, h4, h5⟩ := run_append_own_at (P := Tryz.prog) (w.alloc (.cells #[.string x] 9)) base 28 28 9 i (.string { data := #[] }) 1 16 Tryz.underlying28 hi hz hs hby rfl (by decide) v n (strV xs) (hown.alloc _) ⟨w.heap.size, 0, none⟩ 1 1 [.string x] rfl
  (by intro j u hj
      match j, hj with
      | 0, hj => simp at hj; subst hj; simp [Addr.add])
  (by intro u hu; simp at hu; subst hu; rfl) (by unfold maxLen; omega) (by omega) (by simp; omega)
 have h2' : w'.ownsRow base 9 1 v' (n + 1) (strV (xs ++ [x])) := by
  rw [strV_append]; exact h2
 exact ⟨v', w', hr, h2', grown_alloc h3, by simpa using h5⟩
def kOf (c : Int) : ByteArray := kT ((pickN c 1099511627776).toNat % 9) ((pickN c 1099511627776).toNat / 16) ((pickN c 1099511627776).toNat / 64)
theorem kOf_ok (c : Int) : faultS (ruleOfs krules) (⟨#[43]⟩ ++ kOf c) = 0 /\ (⟨#[43]⟩ ++ kOf c).size <= 100 := kT_fault _ _ _ (by omega)
theorem kTuple_any (c : Int) (w : World) (h1 : -9223372036854775808 <= c) (h2 : c <= 9223372036854775807) :
  Calls Tryz.prog 39 #[.int .i64 c] w fun e w' => e = .returned (.string (kOf c)) /\ Below w.heap.size w w' := by
 have hp := kPick_any c 1099511627776 w h1 h2 (by decide) (by decide)
 obtain ⟨b1, b2⟩ := pickN_bd c 1099511627776 (by decide)
 obtain ⟨v, hv⟩ := Int.eq_ofNat_of_zero_le b1
 unfold kOf
 rw [hv] at hp b2 ⊢
 have hvt : ((v : Nat) : Int).toNat = v := by omega
 rw [hvt]
 exact kTuple_k c v (v % 9) w hp (by omega) rfl (by omega)
def IntsAt (w : World) (v : Value) (cs : List Int) : Prop :=
 ((∃ x c, v = .slice x 0 c) /\ cs = []) \/ ∃ b off cap, v = .slice (some ⟨b, off, none⟩) cs.length cap /\ b < w.heap.size /\ ∀ i c, cs[i]? = some c -> w.cell? ⟨b, off + i, none⟩ = some (.int .i64 c)
def putN (now : List ByteArray) (l : List ByteArray) : List ByteArray := l.foldl (fun n s => withL n s true) now
theorem with_len {l : List ByteArray} (hs : Sorted l) (x : ByteArray) : (withL l x true).length <= l.length + 1 := by
 obtain ⟨i, hp⟩ := place_ex hs x
 have h1 := sorted_nodup (with_sorted hs hp true)
 have h2 := nodup_sub_len (withL l x true) (x :: l) h1 fun a ha => by
  rcases (mem_with hs x a).1 ha with e | e
  ·exact List.mem_cons_of_mem _ e
  ·rw [e]; exact List.mem_cons_self ..
 simpa using h2
theorem putN_ok : ∀ (l now : List ByteArray), Sorted now -> Sorted (putN now l) /\ (putN now l).length <= now.length + l.length /\ ∀ s, s ∈ putN now l ↔ s ∈ now \/ s ∈ l := by
 intro l
 induction l with
 | nil => intro now h; exact ⟨h, by simp [putN], fun s => by simp [putN]⟩
 | cons a l ih =>
  intro now h
  obtain ⟨i, hp⟩ := place_ex h a
  obtain ⟨h1, h2, h3⟩ := ih (withL now a true) (with_sorted h hp true)
  refine ⟨h1, ?_, fun s => ?_⟩
  ·have := with_len h a
   have h4 : (putN now (a :: l)).length = (putN (withL now a true) l).length := rfl
   rw [h4, List.length_cons]; omega
  ·have : s ∈ putN now (a :: l) ↔ s ∈ putN (withL now a true) l := Iff.rfl
   rw [this, h3, mem_with h, List.mem_cons, or_assoc]
theorem putN_snoc (now l : List ByteArray) (s : ByteArray) : putN now (l ++ [s]) = withL (putN now l) s true := by
 unfold putN; rw [List.foldl_append]; rfl
def stL (is : Int) (st : Nat) (al : Bool) (v : Value) : List Value := [.int .i64 is, .int .i64 st, .bool al, v]
theorem t_pollN {W : World} {gb : Nat} {n : Int} {now : List ByteArray} {D : Dk} {cl : Bool} {Ls : List (Nat × List Value)} {w : World} (h : TSt W gb n now D cl Ls w) (id : Int) {is : Int} (hi : (pollR D id).is = is) :
  Calls Tryz.prog 29 #[.pointer (some ⟨gb, 0, none⟩), .int .i64 id] w fun e w' => ∃ al o c m, e = .returned (.agg #[.int .i64 is, .int .i64 (pollR D id).st, .bool al, .slice o m c]) /\ w.heap.size <= w'.heap.size /\ W.heap.size <= w'.heap.size /\ Hid (TSt W gb n now D cl ((w'.heap.size, stL is (pollR D id).st al (.slice o m c)) :: Ls) (w'.alloc (.cells #[.int .i64 is, .int .i64 (pollR D id).st, .bool al, .slice o m c] 51))) := by
 refine (t_poll h id).mono ?_
 rintro e w' ⟨o, c, rfl, -, hz, ht⟩
 rw [hi]
 exact ⟨_, o, c, _, rfl, hz, ht.below.size, ht.add _⟩
def putL (cs : List Int) (k : Nat) : List ByteArray := (cs.take k).map kOf
theorem putL_next {cs : List Int} {k : Nat} {c : Int} (h : cs[k]? = some c) : putL cs (k + 1) = putL cs k ++ [kOf c] := by
 unfold putL
 obtain ⟨h1, h2⟩ := List.getElem?_eq_some_iff.1 h
 rw [List.take_succ_eq_append_getElem h1, h2, List.map_append]; rfl
theorem putL_len (cs : List Int) (k : Nat) : (putL cs k).length <= k := by
 unfold putL; rw [List.length_map, List.length_take]; omega
theorem KD.grown {w3 w4 : World} {B gb : Nat} {g : Pg} {m : List (Value × Value)} {lo base n : Nat} {us : List Value} {xs now : List ByteArray} {R Q : Nat -> Prop} {D : Dk} {lv : Value} (h : KD w3 B gb g m lo xs now R Q D) (hc : g.cl = false) (hg : w3.grownBy w4 lv.ownBlock) (hrow : w3.ownsRow base 9 1 lv n us) (hne : ∀ j, lv.ownBlock = some j -> g.tv.ownBlock ≠ some j) (hq : ∀ j, lv.ownBlock = some j -> ¬ Q j /\ ¬ R j) : KD w4 B gb g m lo xs now R Q D := by
 have kg := kg_grown (h.kg hc) hg hrow hne
 obtain ⟨db, tv, wb, ls, h1, hd⟩ := h.dk
 exact { h with pg := kg.pg, ru := h.ru.to hg.size fun k hk => hg.block k (h.ru.lt k hk) fun e => (hq k e.symm).2 hk, tv := kg.tv, dk := ⟨db, tv, wb, ls, h1, hd.keep hg.size (fun k hk => hg.block k (hd.lt k hk) fun e => (hq k e.symm).1 hk) (fun k hk => hg.block k (hd.ru.lt k hk) fun e => (hq k e.symm).2 hk)⟩ }
structure PutD (R Q : Nat -> Prop) (D : Dk) (w : World) (B gb : Nat) (ver : Int) (m : List (Value × Value)) (lo : Nat) (xs now l : List ByteArray) (lv : Value) (wr : World) : Prop where
 own : wr.ownsRow w.heap.size 9 1 lv l.length (strV l)
 kd : ∃ g, g.ver = ver + l.length /\ g.cl = false /\ KD wr B gb g m lo xs (putN now l) R Q D
 kept : w.grownBy wr (some gb)
 lt : ∀ k, Q k \/ R k -> k < w.heap.size
theorem PutD.step {R Q : Nat -> Prop} {D : Dk} {w : World} {B gb : Nat} {ver : Int} {m : List (Value × Value)} {lo : Nat} {xs now l : List ByteArray} {lv : Value} {wr : World} (h : PutD R Q D w B gb ver m lo xs now l lv wr) (hs0 : Sorted now) (hn : now.length + l.length <= 49) (hv0 : 0 <= ver) (hv : ver <= 900000) (hgb : gb < w.heap.size) (s : ByteArray) (HF : Hid (faultS (ruleOfs xs) (⟨#[43]⟩ ++ s) = 0)) (hsz : (⟨#[43]⟩ ++ s : ByteArray).size <= 100) {w2 : World} (hb : Below wr.heap.size wr w2) :
  Calls Tryz.prog 24 #[.pointer (some ⟨gb, 0, none⟩), .slice (some ⟨w2.heap.size, 0, none⟩) 1 1] (w2.alloc (.cells #[.string (⟨#[43]⟩ ++ s)] 9)) fun e w3 => ∃ n : Int, e = .returned (.tuple #[.int .i64 n, .int .i64 0, .int .i64 0]) /\
   ∃ v' w4, (Builtin.append_ #[28, 28] 28 #[lv, .slice (some ⟨w3.heap.size, 0, none⟩) 1 1]).run Tryz.prog (w3.alloc (.cells #[.string (s)] 9)) = .ok v' w4 /\ Hid (PutD R Q D w B gb ver m lo xs now (l ++ [s]) v' w4) := by
 obtain ⟨g, hg, hcl, kd⟩ := h.kd
 obtain ⟨p1, p2, p3⟩ := putN_ok l now hs0
 have hb2 : Below wr.heap.size wr (w2.alloc (.cells #[.string (⟨#[43]⟩ ++ s)] 9)) := hb.alloc hb.size _
 have hws : w.heap.size <= wr.heap.size := h.kept.size
 have hdo : doneS (putN now l) (⟨#[43]⟩ ++ s) = putN now (l ++ [s]) := by rw [plus_done, putN_snoc]
 obtain ⟨q1, q2, q3⟩ := putN_ok (l ++ [s]) now hs0
 rw [List.length_append] at q2
 have q2 : (putN now (l ++ [s])).length <= now.length + (l.length + 1) := q2
 refine (((kd.later hb2).kg hcl).write1 (by rw [hg]; omega) (s := ⟨#[43]⟩ ++ s) (by omega) HF.out (by rw [hdo]; omega) (by rw [hdo]; exact q1) w2.heap.size 1 (by have := hb.size; omega) (row_cell (alloc_new w2 [.string (⟨#[43]⟩ ++ s)] _) (j := 0) rfl)).mono ?_
 rintro e w3 ⟨rfl, hk, v, hvb, kg'⟩
 have kd' := (kd.later hb2).wrote hk hvb kg'
 refine ⟨_, rfl, ?_⟩
 have hrow : w3.ownsRow w.heap.size 9 1 lv l.length (strV l) := owns_to (owns_below h.own hb2) fun k hkk => by
  obtain ⟨a, b, -⟩ := owns_lt (owns_below h.own hb2) k hkk
  exact hk.block k a (by intro e; injection e with e; omega)
 have hs3 : w.heap.size <= w3.heap.size := Nat.le_trans (Nat.le_trans hws hb2.size) hk.size
 have hkept3 : w.grownBy w3 (some gb) := kept_then h.kept hb2 hk
 obtain ⟨v', w4, hr, ho, hgr, hv'⟩ := app_strF w3 w.heap.size lv l.length l (s) hrow hs3 (by omega)
 refine ⟨v', w4, hr, ?_, ?_, ?_, h.lt⟩
 ·rw [List.length_append]; exact ho
 ·refine ⟨{ g with tv := v, ver := g.ver + 1 }, ?_, hcl, ?_⟩
  ·rw [List.length_append, hg]
   show ver + (l.length : Int) + 1 = ver + ((l.length + 1 : Nat) : Int)
   omega
  ·rw [← hdo]
   refine kd'.grown hcl hgr hrow (fun j hj hj2 => ?_) (fun j hj => ⟨fun e => ?_, fun e => ?_⟩)
   ·have h1 := (owns_lt h.own j hj).1
    have h2 := hvb j hj2
    have h3 := hb2.size
    omega
   ·have h1 := (owns_lt h.own j hj).2.1
    have h2 := h.lt j (Or.inl e)
    omega
   ·have h1 := (owns_lt h.own j hj).2.1
    have h2 := h.lt j (Or.inr e)
    omega
 ·exact kept_row hkept3 hgr hrow
def PutPD (R Q : Nat -> Prop) (D : Dk) (w : World) (B gb : Nat) (ver : Int) (m : List (Value × Value)) (lo : Nat) (now : List ByteArray) (cs : List Int) (most : Nat) (e : Ending) (w' : World) : Prop :=
 ∃ o c, e = .returned (.tuple #[.slice o (putL cs most).length c, .bool true]) /\ PutD R Q D w B gb ver m lo krules now (putL cs most) (.slice o (putL cs most).length c) w'
theorem kPutD {R Q : Nat -> Prop} {D : Dk} {w : World} {B gb : Nat} {g : Pg} {m : List (Value × Value)} {lo : Nat} {now : List ByteArray} (kg : KD w B gb g m lo krules now R Q D) (hcl : g.cl = false) (hver : g.ver <= 900000) (most : Nat) (hm : most <= 40) (hn : now.length + most <= 50) {rv : Value} {cs : List Int} (hr : IntsAt w rv cs) (hB : ∀ b off n cap, rv = .slice (some ⟨b, off, none⟩) n cap -> n ≠ 0 -> b ≠ gb) (hcs : ∀ c ∈ cs, -9223372036854775808 <= c /\ c <= 9223372036854775807) (hl : cs.length <= 9223372036854775807) :
  Calls Tryz.prog 15 #[.pointer (some ⟨gb, 0, none⟩), rv, .int .i64 (most : Nat)] w (PutPD R Q D w B gb g.ver m lo now cs most) := by
 obtain ⟨rx, rc, hrv, HC⟩ : ∃ rx rc, rv = .slice rx cs.length rc /\ Hid (∀ (i : Nat) (c : Int), cs[i]? = some c -> ∃ b off, rx = some ⟨b, off, none⟩ /\ b ≠ gb /\ b < w.heap.size /\ w.cell? ⟨b, off + i, none⟩ = some (.int .i64 c)) := by
  rcases hr with ⟨⟨x, c, rfl⟩, rfl⟩ | ⟨b, off, cap, rfl, hb, hc⟩
  ·exact ⟨x, c, rfl, fun i c h => by simp at h⟩
  ·exact ⟨_, cap, rfl, fun i c h => ⟨b, off, rfl, hB b off _ cap rfl (by have := (List.getElem?_eq_some_iff.1 h).1; omega), hb, hc i c h⟩⟩
 subst hrv
 have HST : Hid (PutD R Q D w B gb g.ver m lo krules now (putL cs 0) (.slice none 0 0) w) := ⟨World.ownsRow_nil _ _ _ _, ⟨g, by simp [putL], hcl, kg⟩, ⟨rfl, rfl, rfl, Nat.le_refl _, fun _ _ _ => rfl⟩, fun k e => e.elim (kg.lt.1 k) (kg.ru.lt k)⟩
 have HSO : Hid (Sorted now) := kg.sorted
 have HV0 : Hid (0 <= g.ver) := kg.ver0
 have HGB : Hid (gb < w.heap.size) := row_lt kg.pg
 have HCS : Hid (∀ c ∈ cs, -9223372036854775808 <= c /\ c <= 9223372036854775807) := hcs
 have HVR : Hid (g.ver <= 900000) := hver
 have HFT : Hid (∀ c, faultS (ruleOfs krules) (⟨#[43]⟩ ++ kOf c) = 0 /\ (⟨#[43]⟩ ++ kOf c).size <= 100) := kOf_ok
 have HEQ : Hid (∀ k : Nat, ¬ k < cs.length -> k <= most -> putL cs k = putL cs most) := by
  intro k h1 h2
  unfold putL
  rw [List.take_of_length_le (by omega), List.take_of_length_le (by omega)]
 have HFIN : Hid (∀ (o : Option Addr) (c n : Nat) (wr : World), n = (putL cs most).length -> PutD R Q D w B gb g.ver m lo krules now (putL cs most) (.slice o n c) wr -> PutPD R Q D w B gb g.ver m lo now cs most (.returned (.tuple #[.slice o n c, .bool true])) wr) := by
  rintro o c n wr rfl h
  exact ⟨o, c, rfl, h⟩
 generalize PutPD R Q D w B gb g.ver m lo now cs most = P at *
 generalize g.ver = ver at *
 clear hr hB hcs kg hver hcl
 obtain ⟨N, hN⟩ : ∃ N, cs.length = N := ⟨_, rfl⟩
 have HN : Hid (cs.length = N) := hN
 rw [hN] at hl HEQ ⊢
 clear hN
 generalize krules = xs at *
 go_enter Tryz.func15, Tryz.ntmps15
 go_wp2
 go_loopw [8, 9] (fun lv i wr => ∃ (k : Nat) (o : Option Addr) (c n : Nat), lv = .slice o n c /\ n = (putL cs k).length /\ i = .int .i64 k /\ k <= most /\ k <= N /\ PutD R Q D w B gb ver m lo xs now (putL cs k) lv wr) (fun _ i _ => most - (intOf i).toNat)
 case atStart => exact ⟨0, none, 0, 0, rfl, by simp [putL], rfl, Nat.zero_le _, Nat.zero_le _, HST.out⟩
 case round =>
  obtain ⟨k, o, c, n, rfl, hnl, rfl, hkm, hkN, hI⟩ := hrel
  clear HST
  have HNL : Hid (n = (putL cs k).length) := hnl
  have HI : Hid (PutD R Q D w B gb ver m lo xs now (putL cs k) (.slice o n c) wr) := hI
  clear hnl hI
  by_cases hlt : k < N
  ·by_cases hlm : k < most
   ·obtain ⟨x, hx⟩ : ∃ x, cs[k]? = some x := ⟨_, List.getElem?_eq_getElem (by have := HN.out; omega)⟩
    obtain ⟨b, off, hrx, hbn, hbl, hcx0⟩ := HC.out k x hx
    subst hrx
    have hcx : wr.cell? ⟨b, off + k, none⟩ = some (.int .i64 x) := (World.cell?_of_block (a := ⟨b, off + k, none⟩) (HI.out.kept.block b hbl (by intro e; injection e with e; exact hbn e))).trans hcx0
    obtain ⟨hx1, hx2⟩ := HCS.out x (List.mem_of_getElem? hx)
    have HTP : Hid (Calls Tryz.prog 39 #[.int .i64 x] wr fun e w' => e = .returned (.string (kOf x)) /\ Below wr.heap.size wr w') := kTuple_any x wr hx1 hx2
    obtain ⟨hft, hfs⟩ := HFT.out x
    have HF1 : Hid (faultS (ruleOfs xs) (⟨#[43]⟩ ++ kOf x) = 0) := hft
    clear hft
    have hpl := putL_len cs k
    have HWR : Hid (∀ w2, Below wr.heap.size wr w2 -> Calls Tryz.prog 24 #[.pointer (some ⟨gb, 0, none⟩), .slice (some ⟨w2.heap.size, 0, none⟩) 1 1] (w2.alloc (.cells #[.string (⟨#[43]⟩ ++ kOf x)] 9)) _) := fun w2 hb => HI.out.step HSO.out (by omega) HV0.out HVR.out HGB.out (kOf x) HF1 hfs hb
    have HNX : Hid (putL cs (k + 1) = putL cs k ++ [kOf x]) := putL_next hx
    have hs9 : (kOf x).size <= 99 := by
     have e : (⟨#[43]⟩ ++ kOf x : ByteArray).size = 1 + (kOf x).size := by simp; rfl
     omega
    clear hcx0 hx hfs hx1 hx2 HFT HCS HC
    generalize kOf x = s at *
    go_wp2_with (first | (go_at_call 39; refine HTP.out.mono ?_; rintro e w2 ⟨rfl, hb2⟩; have HB2 : Hid (Below wr.heap.size wr w2) := hb2; clear hb2) | (go_at_call 24; refine (HWR.out _ HB2.out).mono ?_; rintro e w3 ⟨vn, rfl, v4, w4, hr4, HI4⟩) | (at_builtin; refine wpList_app_run rfl (.tmp 41) (.tmp 43) 28 rfl _ _ _ rfl rfl hr4 ?_))
    obtain ⟨o4, c4, hv4⟩ := owns_form HI4.out.own
    subst hv4
    go_roundw
    case rel => exact ⟨k + 1, o4, c4, _, rfl, by rw [HNX.out], by go_num, by omega, by omega, by rw [HNX.out]; exact HI4.out⟩
    case measure => simp [intOf]; omega
   ·obtain rfl : k = most := by omega
    have HP : Hid (P (.returned (.tuple #[.slice o n c, .bool true])) wr) := HFIN.out o c n wr HNL.out HI.out
    clear HI HC HCS HFT
    go_wp2
    exact HP.out
  ·obtain rfl : k = N := by omega
   have HP : Hid (P (.returned (.tuple #[.slice o n c, .bool true])) wr) := by
    have e := HEQ.out k (by omega) hkm
    have h1 := HI.out
    have h2 := HNL.out
    rw [e] at h1 h2
    exact HFIN.out o c n wr h2 h1
   clear HI HC HCS HFT
   go_wp2
   exact HP.out
def gN (a : Nat) : Nod := ⟨groupB, letS a, memberB⟩
def uN (b : Nat) : Nod := ⟨userB, letS b, noneB⟩
def kNode (k a : Nat) : Nod := if k <= 3 then gN a else ⟨docB, letS a, if k = 4 then parentB else if k = 5 then readerB else if k = 6 then ownerB else if k = 7 then trustedB else bothB⟩
def kSubj (k b : Nat) : Nod := if k = 0 \/ k = 1 \/ k = 6 \/ k = 8 then uN b else if k = 4 then ⟨docB, letS b, noneB⟩ else gN b
theorem let_name : ∀ a, a < 4 -> nameL (letS a).data.toList = true := by decide +kernel
theorem let_name' (a : Nat) : nameL (letS a).data.toList = true := by rw [letS_mod]; exact let_name _ (by omega)
theorem mk_data (b : ByteArray) : mk b.data.toList = b := by
 refine bytes_ext ?_
 simp [mk]
theorem gN_nm (a : Nat) : NmN (gN a) groupB.data.toList (letS a).data.toList (some memberB.data.toList) := by
 refine ⟨?_, by decide +kernel, let_name' a, fun r hr => by cases hr; decide +kernel⟩
 show gN a = ⟨mk groupB.data.toList, mk (letS a).data.toList, mk memberB.data.toList⟩
 rw [mk_data, mk_data, mk_data]; rfl
theorem uN_nm (a : Nat) : NmN (uN a) userB.data.toList (letS a).data.toList none := by
 refine ⟨?_, by decide +kernel, let_name' a, fun r hr => by cases hr⟩
 show uN a = ⟨mk userB.data.toList, mk (letS a).data.toList, noneB⟩
 rw [mk_data, mk_data]; rfl
theorem tpOf_tupT {x y : Nod} {k n r k2 n2 : List UInt8} {o : Option (List UInt8)} (hx : NmN x k n (some r)) (hy : NmN y k2 n2 o) : tpOf (tupT x y) = (x, y) := by
 have hd : TupD (tupT x y).data.toList k n r k2 n2 o := ⟨by rw [tupT_mk hx hy, mk_list], hx.hk, hx.hn, hx.ho r rfl, hy.hk, hy.hn, hy.ho⟩
 obtain ⟨-, h1, h2⟩ := tup_of (tupT x y) k n r k2 n2 o hd
 have a1 : (tpOf (tupT x y)).1 = x := by unfold tpOf ndOf; rw [h1, hx.e]; rfl
 have a2 : (tpOf (tupT x y)).2 = y := by unfold tpOf ndOf; rw [h2, hy.e]
 exact Prod.ext a1 a2
theorem dN_nm {r : ByteArray} (hr : nameL r.data.toList = true) (a : Nat) : NmN ⟨docB, letS a, r⟩ docB.data.toList (letS a).data.toList (some r.data.toList) := by
 refine ⟨?_, by decide +kernel, let_name' a, fun z hz => by cases hz; exact hr⟩
 show (⟨docB, letS a, r⟩ : Nod) = ⟨mk docB.data.toList, mk (letS a).data.toList, mk r.data.toList⟩
 rw [mk_data, mk_data, mk_data]
theorem dT_nm (a : Nat) : NmN ⟨docB, letS a, noneB⟩ docB.data.toList (letS a).data.toList none := by
 refine ⟨?_, by decide +kernel, let_name' a, fun z hz => by cases hz⟩
 show (⟨docB, letS a, noneB⟩ : Nod) = ⟨mk docB.data.toList, mk (letS a).data.toList, noneB⟩
 rw [mk_data, mk_data]
theorem kT_at {x y : Nod} {k n r k2 n2 : List UInt8} {o : Option (List UInt8)} (hx : NmN x k n (some r)) (hy : NmN y k2 n2 o) {s : ByteArray} (hs : s.data.toList = k ++ 58 :: (n ++ 35 :: (r ++ 64 :: (k2 ++ 58 :: (n2 ++ otail o))))) : tpOf s = (x, y) := by
 have e : s = tupT x y := by rw [tupT_mk hx hy]; exact eq_mk hs
 rw [e]; exact tpOf_tupT hx hy
theorem kT_tp (k a b : Nat) (hk : k < 9) : tpOf (kT k a b) = (kNode k a, kSubj k b) := by
 have h : k = 0 \/ k = 1 \/ k = 2 \/ k = 3 \/ k = 4 \/ k = 5 \/ k = 6 \/ k = 7 \/ k = 8 := by omega
 rcases h with rfl | rfl | rfl | rfl | rfl | rfl | rfl | rfl | rfl
 ·exact kT_at (gN_nm a) (uN_nm b) (by simp [kT, kPre, kMid, kEnd, groupB, memberB, userB, otail])
 ·exact kT_at (gN_nm a) (uN_nm b) (by simp [kT, kPre, kMid, kEnd, groupB, memberB, userB, otail])
 ·exact kT_at (gN_nm a) (gN_nm b) (by simp [kT, kPre, kMid, kEnd, groupB, memberB, otail])
 ·exact kT_at (gN_nm a) (gN_nm b) (by simp [kT, kPre, kMid, kEnd, groupB, memberB, otail])
 ·exact kT_at (dN_nm (r := parentB) (by decide +kernel) a) (dT_nm b) (by simp [kT, kPre, kMid, kEnd, docB, parentB, otail])
 ·exact kT_at (dN_nm (r := readerB) (by decide +kernel) a) (gN_nm b) (by simp [kT, kPre, kMid, kEnd, docB, readerB, groupB, memberB, otail])
 ·exact kT_at (dN_nm (r := ownerB) (by decide +kernel) a) (uN_nm b) (by simp [kT, kPre, kMid, kEnd, docB, ownerB, userB, otail])
 ·exact kT_at (dN_nm (r := trustedB) (by decide +kernel) a) (gN_nm b) (by simp [kT, kPre, kMid, kEnd, docB, trustedB, groupB, memberB, otail])
 ·exact kT_at (dN_nm (r := bothB) (by decide +kernel) a) (uN_nm b) (by simp [kT, kPre, kMid, kEnd, docB, bothB, userB, otail])
structure HeldT (l now : List ByteArray) : Prop where
 ht : ∀ s ∈ now, tupOk s = true
 mem : ∀ s, s ∈ now ↔ s ∈ know0 \/ s ∈ l
 ks : ∀ s ∈ l, ∃ k a b, k < 9 /\ s = kT k a b
def kSuf (k : Nat) : ByteArray := if k = 0 then ⟨#[35, 109, 101, 109, 98, 101, 114]⟩ else if k = 1 then ⟨#[35, 114, 101, 97, 100, 101, 114]⟩ else if k = 2 then ⟨#[35, 101, 100, 105, 116, 111, 114]⟩ else if k = 3 then ⟨#[35, 111, 119, 110, 101, 114]⟩ else if k = 4 then ⟨#[35, 98, 111, 116, 104]⟩ else ⟨#[35, 112, 97, 114, 101, 110, 116]⟩
def kNd (k a : Nat) : ByteArray := (if k = 0 then ⟨#[103, 114, 111, 117, 112, 58]⟩ else ⟨#[100, 111, 99, 58]⟩) ++ letS a ++ kSuf k
def kRel (k : Nat) : ByteArray := if k = 0 then memberB else if k = 1 then readerB else if k = 2 then editorB else if k = 3 then ownerB else if k = 4 then bothB else parentB
def kNN (k a : Nat) : Nod := ⟨if k = 0 then groupB else docB, letS a, kRel k⟩
theorem kNode_k (c : Int) (v k : Nat) (w : World) (hp : Calls Tryz.prog 17 #[.int .i64 c, .int .i64 1099511627776] w fun e w' => e = .returned (.int .i64 (v : Nat)) /\ w' = w) (hk : k < 6) (hm : v % 6 = k) (hv : v <= 1099511627776) :
  Calls Tryz.prog 22 #[.int .i64 c] w fun e w' => e = .returned (.string (kNd k (v / 16))) /\ Below w.heap.size w w' := by
 have q16 : (v : Int).tdiv 16 = ((v / 16 : Nat) : Int) := quo_nat v 16
 have r6 : (v : Int).tmod 6 = ((v % 6 : Nat) : Int) := rem_nat v 6
 have HA : Hid (∀ w1, Calls Tryz.prog 16 #[.int .i64 ((v / 16 : Nat) : Int)] w1 fun e w' => e = .returned (.string (letS (v / 16))) /\ Below w1.heap.size w1 w') := fun w1 => letter_any (v / 16) w1 (by omega)
 have sa := letS_size (v / 16)
 have w16 : wrap64 ((v / 16 : Nat) : Int) = ((v / 16 : Nat) : Int) := wrap_small (by omega) (by omega)
 have HT : Hid (kNd k (v / 16) = (if k = 0 then ⟨#[103, 114, 111, 117, 112, 58]⟩ else ⟨#[100, 111, 99, 58]⟩) ++ letS (v / 16) ++ kSuf k) := rfl
 rw [hm] at r6
 generalize kNd k (v / 16) = T at *
 generalize letS (v / 16) = la at *
 generalize ((v / 16 : Nat) : Int) = n16 at *
 clear hm
 have hcs : k = 0 \/ k = 1 \/ k = 2 \/ k = 3 \/ k = 4 \/ k = 5 := by omega
 clear hk
 rcases hcs with rfl | rfl | rfl | rfl | rfl | rfl
 all_goals
  go_enter Tryz.func22, Tryz.ntmps22
  go_wp2_with (first | (go_at_call 17; refine hp.mono ?_; rintro e w1 ⟨rfl, rfl⟩) | (go_at_call 16; refine (HA.out _).mono ?_; rintro e w2 ⟨rfl, hb2⟩))
  go_ret
  refine ⟨?_, hb2⟩
  rw [HT.out]
  rfl
theorem kNN_nm (k a : Nat) (hk : k < 6) : ∃ kk rr, NmN (kNN k a) kk (letS a).data.toList (some rr) /\ (kNd k a).data.toList = kk ++ 58 :: ((letS a).data.toList ++ 35 :: rr) := by
 have h : k = 0 \/ k = 1 \/ k = 2 \/ k = 3 \/ k = 4 \/ k = 5 := by omega
 rcases h with rfl | rfl | rfl | rfl | rfl | rfl
 ·exact ⟨_, _, gN_nm a, by simp [kNd, kSuf, groupB, memberB]⟩
 ·exact ⟨_, _, dN_nm (r := readerB) (by decide +kernel) a, by simp [kNd, kSuf, docB, readerB]⟩
 ·exact ⟨_, _, dN_nm (r := editorB) (by decide +kernel) a, by simp [kNd, kSuf, docB, editorB]⟩
 ·exact ⟨_, _, dN_nm (r := ownerB) (by decide +kernel) a, by simp [kNd, kSuf, docB, ownerB]⟩
 ·exact ⟨_, _, dN_nm (r := bothB) (by decide +kernel) a, by simp [kNd, kSuf, docB, bothB]⟩
 ·exact ⟨_, _, dN_nm (r := parentB) (by decide +kernel) a, by simp [kNd, kSuf, docB, parentB]⟩
theorem kNN_has0 : ∀ k, k < 6 -> hasR krules (kNN k 0) = true := by decide +kernel
theorem kNd_que (k a : Nat) (hk : k < 6) : queOk (kNd k a) = true /\ queC (kNd k a) = false /\ queX (kNd k a) = kNN k a /\ hasR krules (queX (kNd k a)) = true /\ (kNd k a).size <= maxLen := by
 obtain ⟨kk, rr, h, ht⟩ := kNN_nm k a hk
 obtain ⟨h1, h2, h3, -⟩ := que_no h.hk h.hn (h.ho _ rfl) ht
 have hx : queX (kNd k a) = kNN k a := by rw [h3, h.e]; rfl
 refine ⟨h1, h2, hx, ?_, ?_⟩
 ·rw [hx]
  have e : hasR krules (kNN k a) = hasR krules (kNN k 0) := rfl
  rw [e]; exact kNN_has0 k hk
 ·have e : (kNd k a).size = (kNd k a).data.toList.length := by rw [Array.length_toList]; rfl
  rw [e, ht]
  have a1 := nameL_len h.hk
  have a2 := nameL_len h.hn
  have a3 := nameL_len (h.ho _ rfl)
  have := big_max
  simp only [List.length_append, List.length_cons]
  omega
def zX : Nod := ⟨groupB, zB, memberB⟩
theorem letS_zB : ∀ b, b < 4 -> letS b ≠ zB := by decide +kernel
theorem kNode_n (k a : Nat) : (kNode k a).n = letS a := by
 unfold kNode
 split <;> rfl
theorem z_names {l now : List ByteArray} (h : HeldT l now) : namesN (tsOf now) (ruleN krules) zX = [] := by
 unfold namesN
 rw [List.filter_eq_nil_iff]
 intro y hy
 have e : ruleN krules zX = thisW := kr_member zB
 rw [e] at hy
 have e2 : namedW (tsOf now) zX thisW = subsOf (tsOf now) zX := by simp [thisW, namedW, isLeaf, leafW]
 rw [e2, mem_subsOf] at hy
 obtain ⟨s, hs, es⟩ := List.mem_map.1 hy
 rcases (h.mem s).1 hs with hs | hs
 ·have h0 : tpOf s ∈ tsOf know0 := List.mem_map.2 ⟨s, hs, rfl⟩
  rw [es, know0_ts] at h0
  simp only [List.mem_cons, Prod.mk.injEq, List.not_mem_nil, or_false] at h0
  rcases h0 with ⟨e1, -⟩ | ⟨-, e1⟩
  ·exfalso
   revert e1
   show zX = _ -> False
   decide +kernel
  ·rw [e1]; decide +kernel
 ·obtain ⟨k, a', b', hk, rfl⟩ := h.ks s hs
  rw [kT_tp k a' b' hk] at es
  injection es with e1 _
  have := congrArg Nod.n e1
  rw [kNode_n, letS_mod] at this
  exact absurd this (letS_zB _ (Nat.mod_lt _ (by decide)))
theorem z_cost {l now : List ByteArray} (h : HeldT l now) : CostN krules now zX 1 := by
 refine ⟨[zX], by simp, fun y => ?_, rfl⟩
 rw [List.mem_singleton]
 constructor
 ·intro e; rw [e]; exact Rch.here
 ·intro hr
  refine Rch.in (S := fun y => y = zX) (fun x hx y hy => ?_) rfl hr
  rw [hx, z_names h] at hy
  cases hy
theorem askE_of {s : ByteArray} (h1 : queOk s = true) (h2 : hasR krules (queX s) = true) : askE krules s = 0 := by
 unfold askE; rw [h1, h2]; rfl
def uaB : ByteArray := ⟨#[64, 117, 115, 101, 114, 58, 97]⟩
def qzB : ByteArray := ⟨#[103, 114, 111, 117, 112, 58, 122, 35, 109, 101, 109, 98, 101, 114]⟩
theorem qz_ok : askE krules qzB = 0 /\ queX qzB = zX := by
 constructor
 ·decide +kernel
 ·decide +kernel
theorem nd_ok {k : Nat} (hk : k < 6) (a : Nat) : askE krules (kNd k a) = 0 /\ queX (kNd k a) = kNN k a /\ (kNd k a).size <= maxLen := by
 obtain ⟨q1, q2, q3, q4, q5⟩ := kNd_que k a hk
 exact ⟨askE_of q1 q4, q3, q5⟩
theorem ndu_all : ∀ k, k < 6 -> ∀ a, a < 4 -> askE krules (kNd k a ++ uaB) = 0 /\ queX (kNd k a ++ uaB) = kNN k a /\ (kNd k a ++ uaB).size <= 100 := by decide +kernel
theorem kNd_mod (k a : Nat) : kNd k a = kNd k (a % 4) := by unfold kNd; rw [← letS_mod]
theorem kNN_mod (k a : Nat) : kNN k a = kNN k (a % 4) := by unfold kNN; rw [← letS_mod]
theorem ndu_ok {k : Nat} (hk : k < 6) (a : Nat) : askE krules (kNd k a ++ uaB) = 0 /\ queX (kNd k a ++ uaB) = kNN k a /\ (kNd k a ++ uaB).size <= maxLen := by
 obtain ⟨h1, h2, h3⟩ := ndu_all k hk (a % 4) (Nat.mod_lt _ (by decide))
 rw [← kNd_mod] at h1 h2 h3
 rw [← kNN_mod] at h2
 exact ⟨h1, h2, by unfold maxLen; omega⟩
theorem kNN_z {k : Nat} (a : Nat) : kNN k a ≠ zX := by
 intro e
 have h1 : letS a = zB := congrArg Nod.n e
 rw [letS_mod] at h1
 exact letS_zB _ (Nat.mod_lt _ (by decide)) h1
theorem t_put {W : World} {rv : Value} {cs : List Int} (hr : IntsAt W rv cs) (hcs : ∀ c ∈ cs, -9223372036854775808 <= c /\ c <= 9223372036854775807) (hl : cs.length <= 9223372036854775807) {gb : Nat} {n : Int} {now : List ByteArray} {D : Dk} {Ls : List (Nat × List Value)} {w1 : World} (h : TSt W gb n now D false Ls w1) (hn : n <= 1000) (most : Nat) (hm : most <= 40) (hnl : now.length + most <= 50) :
  Calls Tryz.prog 15 #[.pointer (some ⟨gb, 0, none⟩), rv, .int .i64 (most : Nat)] w1 fun e wP => ∃ o c, e = .returned (.tuple #[.slice o (putL cs most).length c, .bool true]) /\ TSt W gb (n + most) (putN now (putL cs most)) D false Ls wP /\ w1.grownBy wP (some gb) := by
 obtain ⟨g, m, lo, R, Q, h1, h2, h3, h4⟩ := h.kd
 have hb := h.below
 have hr1 : IntsAt w1 rv cs := by
  rcases hr with h | ⟨b, off, cap, rfl, hbl, hc⟩
  ·exact Or.inl h
  ·exact Or.inr ⟨b, off, cap, rfl, Nat.lt_of_lt_of_le hbl hb.size, fun i c h => (hb.cell (p := ⟨b, off + i, none⟩) hbl).trans (hc i c h)⟩
 have hB : ∀ b off n cap, rv = .slice (some ⟨b, off, none⟩) n cap -> n ≠ 0 -> b ≠ gb := by
  intro b off n cap e hn
  rcases hr with ⟨⟨x, c, e2⟩, -⟩ | ⟨b', off', cap', e2, hbl, -⟩
  ·rw [e2] at e; injection e with _ e _; omega
  ·rw [e2] at e
   injection e with e _ _
   injection e with e
   injection e with e
   have := h3.gB
   omega
 refine (kPutD h3 h1 (by omega) most hm hnl hr1 hB hcs hl).mono ?_
 rintro e wP ⟨o, c, rfl, hI⟩
 obtain ⟨g', hv', hc', kd'⟩ := hI.kd
 have hlen := putL_len cs most
 refine ⟨o, c, rfl, ⟨⟨g', m, lo, R, Q, hc', by omega, kd', fun p hp => ?_⟩, hb.grown hI.kept hb.size (fun j hj => by injection hj with hj; rw [← hj]; exact h3.gB)⟩, hI.kept⟩
 obtain ⟨q1, q2, q3, q4⟩ := h4 p hp
 exact ⟨(hI.kept.block _ (row_lt q1) (by intro e; injection e with e; exact q4 e)).trans q1, q2, q3, q4⟩
theorem t_heldT {W : World} {gb : Nat} {n : Int} {D : Dk} {Ls : List (Nat × List Value)} {w : World} {l : List ByteArray} (h : TSt W gb n (putN know0 l) D false Ls w) (hk : ∀ s ∈ l, ∃ k a b, k < 9 /\ s = kT k a b) : HeldT l (putN know0 l) := by
 obtain ⟨g, m, lo, R, Q, h1, h2, h3, h4⟩ := h.kd
 exact ⟨h3.doc.ht, (putN_ok l know0 know0_sorted).2.2, hk⟩
theorem putL_ks (cs : List Int) (k : Nat) : ∀ s ∈ putL cs k, ∃ k a b, k < 9 /\ s = kT k a b := by
 intro s hs
 unfold putL at hs
 obtain ⟨c, -, rfl⟩ := List.mem_map.1 hs
 exact ⟨_, _, _, Nat.mod_lt _ (by decide), rfl⟩
theorem costP_zero {xs now : List ByteArray} {s : ByteArray} {w : World} {e : Ending} {w' : World} (h : CostP xs now s w e w') (he : askE xs s = 0) : ∃ met : List Nod, e = .returned (.tuple #[.int .i64 (met.length : Nat), .int .i64 0]) /\ Below w.heap.size w w' /\ met.Nodup /\ (∀ y, y ∈ met ↔ Rch (tsOf now) (ruleN xs) (queX s) y) /\ met.length <= 32000000 := by
 unfold CostP at h
 generalize askE xs s = er at h he
 subst he
 obtain ⟨k, h1, h2, h3⟩ := h
 rw [if_pos rfl] at h3
 obtain ⟨met, rfl, h4, h5, h6⟩ := h3
 exact ⟨met, h1, h2, h4, h5, h6⟩
theorem t_cost (HN : Hid NodeC) (HW : Hid TWayC) {W : World} {gb : Nat} {n : Int} {now : List ByteArray} {D : Dk} {cl : Bool} {Ls : List (Nat × List Value)} {w : World} (h : TSt W gb n now D cl Ls w) {s : ByteArray} (hs : s.size <= maxLen) (he : askE krules s = 0) :
  Calls Tryz.prog 20 #[.pointer (some ⟨gb, 0, none⟩), .string s] w fun e w' => ∃ k : Nat, e = .returned (.tuple #[.int .i64 k, .int .i64 0]) /\ k <= 32000000 /\ CostN krules now (queX s) k /\ TSt W gb n now D cl Ls w' := by
 obtain ⟨g, m, lo, R, Q, h1, h2, h3, h4⟩ := h.kd
 refine (cost_any HN HW (h3.gate s hs) s hs (fun h _ => queOk_of h krules now) (que_sizesK s hs)).mono ?_
 intro e w' hp
 obtain ⟨met, h5, hb, hnd, hm, hml⟩ := costP_zero hp he
 exact ⟨met.length, h5, hml, ⟨met, hnd, hm, rfl⟩, h.later hb⟩
structure AJ (x z : Nod) (D : Dk) : Prop where
 ex : ∃ a b c : Rq, D.rs = [a, b, c] /\ (∀ t, a.tk = some t -> t.x = x) /\ (∀ t, b.tk = some t -> t.x = x) /\ (∀ t, c.tk = some t -> t.x = z) /\ a.is ≠ 1 /\ (a.is = 2 -> b.is = 1 /\ b.st = 0 /\ ∃ i : Nat, D.wk[i]? = some (some 0))
 wl : D.wk.length = 4
 own : ∀ (i j : Nat) (r : Rq), D.wk[i]? = some (some j) -> D.rs[j]? = some r -> r.is = 2
 lv : ∀ (j : Nat) (r : Rq), D.rs[j]? = some r -> (r.tk = none ↔ ¬ (r.is = 1 \/ r.is = 2))
theorem three_get {a b c : Rq} {j : Nat} {r : Rq} (h : [a, b, c][j]? = some r) : (j = 0 /\ r = a) \/ (j = 1 /\ r = b) \/ (j = 2 /\ r = c) := by
 match j, h with
 | 0, h => simp at h; exact Or.inl ⟨rfl, h.symm⟩
 | 1, h => simp at h; exact Or.inr (Or.inl ⟨rfl, h.symm⟩)
 | 2, h => simp at h; exact Or.inr (Or.inr ⟨rfl, h.symm⟩)
 | j + 3, h => simp at h
theorem busy_of {D : Dk} {x : Nod} {i j : Nat} {r : Rq} {t : Tk} (hi : D.wk[i]? = some (some j)) (hr : D.rs[j]? = some r) (ht : r.tk = some t) (hx : t.x = x) : busyN D x = true := by
 unfold busyN
 refine List.any_eq_true.2 ⟨some j, List.mem_of_getElem? hi, decide_eq_true ?_⟩
 unfold nodeW
 show (D.rs[j]?.bind fun r => r.tk.map Tk.x) = some x
 rw [hr]
 show r.tk.map Tk.x = some x
 rw [ht, ← hx]; rfl
theorem AJ.give {x z : Nod} {D : Dk} (h : AJ x z D) {i : Nat} (hi : D.wk[i]? = some none) : AJ x z (giveD D i) := by
 obtain ⟨a, b, c, hrs, ha, hb, hc, ha1, ha2⟩ := h.ex
 cases he : D.rs.findIdx? (mayR D) with
 | none => unfold giveD; rw [he]; exact h
 | some j =>
  obtain ⟨hj1, hj2, -⟩ := List.findIdx?_eq_some_iff_getElem.1 he
  have hjr : D.rs[j]? = some D.rs[j] := List.getElem?_eq_getElem hj1
  generalize D.rs[j] = r at hj2 hjr
  have hg : giveD D i = { D with rs := D.rs.set j { r with is := 2 }, wk := D.wk.set i (some j) } := by
   unfold giveD; rw [he]
   show { D with rs := D.rs.modify j _, wk := _ } = _
   rw [modify_set _ hjr]
  have hm : waitsR r = true /\ ∀ t, r.tk = some t -> busyN D t.x = false := by
   unfold mayR at hj2
   rw [Bool.and_eq_true] at hj2
   refine ⟨hj2.1, fun t ht => ?_⟩
   have := hj2.2
   rw [ht] at this
   simpa using this
  have his : r.is = 1 := of_decide_eq_true hm.1
  have hrt : r.tk ≠ none := fun e => (h.lv j r hjr).1 e (Or.inl his)
  rw [hg]
  have hil : i < D.wk.length := (List.getElem?_eq_some_iff.1 hi).1
  have hsetl : ∀ (j' : Nat) (r' : Rq), (D.rs.set j { r with is := 2 })[j']? = some r' -> (j' = j /\ r' = { r with is := 2 }) \/ (j' ≠ j /\ D.rs[j']? = some r') := by
   intro j' r' hr'
   by_cases e : j = j'
   ·subst e
    rw [List.getElem?_set_self hj1] at hr'
    injection hr' with hr'
    exact Or.inl ⟨rfl, hr'.symm⟩
   ·rw [List.getElem?_set_ne e] at hr'
    exact Or.inr ⟨Ne.symm e, hr'⟩
  refine ⟨?_, by show (D.wk.set i (some j)).length = 4; rw [List.length_set]; exact h.wl, ?_, ?_⟩
  ·rcases three_get (by rw [← hrs]; exact hjr) with ⟨e1, e2⟩ | ⟨e1, e2⟩ | ⟨e1, e2⟩
   ·exact absurd (e2 ▸ his) ha1
   ·subst e1 e2
    have hn : a.is ≠ 2 := by
     intro e
     obtain ⟨-, -, i0, hi0⟩ := ha2 e
     obtain ⟨t, ht⟩ : ∃ t, r.tk = some t := by
      cases ek : r.tk with
      | none => exact absurd ek hrt
      | some t => exact ⟨t, rfl⟩
     have ha0 : D.rs[0]? = some a := by rw [hrs]; rfl
     obtain ⟨s, hs⟩ : ∃ s, a.tk = some s := by
      cases ek : a.tk with
      | none => exact absurd (Or.inr e) ((h.lv 0 a ha0).1 ek)
      | some s => exact ⟨s, rfl⟩
     have h1 := hm.2 t ht
     rw [hb t ht] at h1
     rw [busy_of hi0 ha0 hs (ha s hs)] at h1
     cases h1
    exact ⟨a, { r with is := 2 }, c, by show D.rs.set 1 _ = _; rw [hrs]; rfl, ha, hb, hc, ha1, fun e => absurd e hn⟩
   ·subst e1 e2
    refine ⟨a, b, { r with is := 2 }, by show D.rs.set 2 _ = _; rw [hrs]; rfl, ha, hb, hc, ha1, fun e => ?_⟩
    obtain ⟨q1, q2, i0, hi0⟩ := ha2 e
    refine ⟨q1, q2, i0, ?_⟩
    show (D.wk.set i (some 2))[i0]? = _
    rw [List.getElem?_set_ne (fun e => by subst e; rw [hi] at hi0; injection hi0 with hi0; cases hi0)]
    exact hi0
  ·intro i' j' r' hi' hr'
   rcases hsetl j' r' hr' with ⟨e1, e2⟩ | ⟨e1, e2⟩
   ·rw [e2]
   ·have hi2 : (D.wk.set i (some j))[i']? = some (some j') := hi'
    by_cases e : i = i'
    ·subst e
     rw [List.getElem?_set_self hil] at hi2
     injection hi2 with hi2
     injection hi2 with hi2
     exact absurd hi2.symm e1
    ·rw [List.getElem?_set_ne e] at hi2
     exact h.own i' j' r' hi2 e2
  ·intro j' r' hr'
   rcases hsetl j' r' hr' with ⟨e1, e2⟩ | ⟨e1, e2⟩
   ·rw [e2]
    exact ⟨fun e => absurd e hrt, fun e => absurd (Or.inr rfl) e⟩
   ·exact h.lv j' r' e2
theorem stepR_is {xs : List ByteArray} {t : Tk} {r r' : Rq} {fin : Bool} (hs : StepR xs t r r' fin) (ht : r.tk = some t) (hi : r.is = 2) : r'.st = r.st + 1 /\ ((r'.tk = none /\ (r'.is = 3 \/ r'.is = 4)) \/ (r'.tk = some t /\ r'.is = 2 /\ fin = false)) := by
 cases fin with
 | true =>
  obtain ⟨h1, h2, h3, -⟩ := hs.done rfl
  exact ⟨h2, Or.inl ⟨h3, Or.inl h1⟩⟩
 | false =>
  by_cases e : (r.st : Int) + 1 = t.bud
  ·have := hs.bud rfl e
   subst this
   exact ⟨rfl, Or.inl ⟨rfl, Or.inr rfl⟩⟩
  ·have := hs.on rfl e
   subst this
   exact ⟨rfl, Or.inr ⟨ht, hi, rfl⟩⟩
theorem AJ.work {x z : Nod} {D : Dk} (h : AJ x z D) {xs : List ByteArray} {i j : Nat} {r r' : Rq} {t : Tk} {fin : Bool} (hi : D.wk[i]? = some (some j)) (hr : D.rs[j]? = some r) (ht : r.tk = some t) (hs : StepR xs t r r' fin) : AJ x z (dismissD { D with rs := D.rs.set j r' }) := by
 obtain ⟨a, b, c, hrs, ha, hb, hc, ha1, ha2⟩ := h.ex
 have his := h.own i j r hi hr
 obtain ⟨-, hr'⟩ := stepR_is hs ht his
 have hj1 := (List.getElem?_eq_some_iff.1 hr).1
 have hsetl : ∀ (j' : Nat) (q : Rq), (D.rs.set j r')[j']? = some q -> (j' = j /\ q = r') \/ (j' ≠ j /\ D.rs[j']? = some q) := by
  intro j' q hq
  by_cases e : j = j'
  ·subst e
   rw [List.getElem?_set_self hj1] at hq
   injection hq with hq
   exact Or.inl ⟨rfl, hq.symm⟩
  ·rw [List.getElem?_set_ne e] at hq
   exact Or.inr ⟨Ne.symm e, hq⟩
 have hdis : ∀ (i' j' : Nat), (D.wk.map (dismW (D.rs.set j r')))[i']? = some (some j') -> D.wk[i']? = some (some j') /\ liveJ (D.rs.set j r') j' = true := by
  intro i' j' hq
  rw [List.getElem?_map] at hq
  cases ho : D.wk[i']? with
  | none => rw [ho] at hq; cases hq
  | some o =>
   rw [ho] at hq
   injection hq with hq
   cases o with
   | none => cases hq
   | some j0 =>
    have hq : (if liveJ (D.rs.set j r') j0 = true then some j0 else none) = some j' := hq
    split at hq
    ·rename_i hl
     injection hq with hq
     subst hq
     exact ⟨rfl, hl⟩
    ·cases hq
 have hkeep : ∀ (i' j' : Nat) (q : Rq), D.wk[i']? = some (some j') -> (D.rs.set j r')[j']? = some q -> q.tk ≠ none -> (D.wk.map (dismW (D.rs.set j r')))[i']? = some (some j') := by
  intro i' j' q hq hq2 hq3
  rw [List.getElem?_map, hq]
  have hl : liveJ (D.rs.set j r') j' = true := by
   unfold liveJ; rw [hq2]
   show q.tk.isSome = true
   cases ek : q.tk with
   | none => exact absurd ek hq3
   | some t => rfl
  show some (if liveJ (D.rs.set j r') j' = true then some j' else none) = _
  rw [if_pos hl]
 refine ⟨?_, by show (D.wk.map _).length = 4; rw [List.length_map]; exact h.wl, ?_, ?_⟩
 ·rcases three_get (by rw [← hrs]; exact hr) with ⟨e1, e2⟩ | ⟨e1, e2⟩ | ⟨e1, e2⟩
  ·subst e1 e2
   refine ⟨r', b, c, by show D.rs.set 0 _ = _; rw [hrs]; rfl, fun s hs' => ?_, hb, hc, ?_, fun e => ?_⟩
   ·rcases hr' with ⟨q1, -⟩ | ⟨q1, -, -⟩
    ·rw [q1] at hs'; cases hs'
    ·rw [q1] at hs'
     injection hs' with hs'
     rw [← hs']; exact ha t ht
   ·rcases hr' with ⟨-, q | q⟩ | ⟨-, q, -⟩ <;> rw [q] <;> decide
   ·obtain ⟨q1, q2, -⟩ := ha2 his
    refine ⟨q1, q2, i, hkeep i 0 r' hi (by rw [List.getElem?_set_self hj1]) ?_⟩
    rcases hr' with ⟨-, q | q⟩ | ⟨q, -, -⟩
    ·rw [q] at e; cases e
    ·rw [q] at e; cases e
    ·rw [q]; simp
  ·subst e1 e2
   refine ⟨a, r', c, by show D.rs.set 1 _ = _; rw [hrs]; rfl, ha, fun s hs' => ?_, hc, ha1, fun e => ?_⟩
   ·rcases hr' with ⟨q1, -⟩ | ⟨q1, -, -⟩
    ·rw [q1] at hs'; cases hs'
    ·rw [q1] at hs'
     injection hs' with hs'
     rw [← hs']; exact hb t ht
   ·obtain ⟨q1, -⟩ := ha2 e
    rw [his] at q1; cases q1
  ·subst e1 e2
   refine ⟨a, b, r', by show D.rs.set 2 _ = _; rw [hrs]; rfl, ha, hb, fun s hs' => ?_, ha1, fun e => ?_⟩
   ·rcases hr' with ⟨q1, -⟩ | ⟨q1, -, -⟩
    ·rw [q1] at hs'; cases hs'
    ·rw [q1] at hs'
     injection hs' with hs'
     rw [← hs']; exact hc t ht
   ·obtain ⟨q1, q2, i0, hi0⟩ := ha2 e
    have ha0 : D.rs[0]? = some a := by rw [hrs]; rfl
    exact ⟨q1, q2, i0, hkeep i0 0 a hi0 (by rw [List.getElem?_set_ne (by decide)]; exact ha0) fun ek => (h.lv 0 a ha0).1 ek (Or.inr e)⟩
 ·intro i' j' q hi' hq
  obtain ⟨g1, g2⟩ := hdis i' j' hi'
  rcases hsetl j' q hq with ⟨e1, e2⟩ | ⟨e1, e2⟩
  ·rcases hr' with ⟨q1, -⟩ | ⟨-, q2, -⟩
   ·unfold liveJ at g2
    have hq' : (D.rs.set j r')[j']? = some q := hq
    rw [hq'] at g2
    have g3 : q.tk.isSome = true := g2
    rw [e2, q1] at g3; cases g3
   ·rw [e2]; exact q2
  ·exact h.own i' j' q g1 e2
 ·intro j' q hq
  rcases hsetl j' q hq with ⟨e1, e2⟩ | ⟨e1, e2⟩
  ·rw [e2]
   rcases hr' with ⟨q1, q2⟩ | ⟨q1, q2, -⟩
   ·exact ⟨fun _ => by omega, fun _ => q1⟩
   ·exact ⟨(fun e => by rw [q1] at e; cases e), fun e => absurd (Or.inr q2) e⟩
  ·exact h.lv j' q e2
theorem AJ.step {x z : Nod} {D D' : Dk} (h : AJ x z D) {xs : List ByteArray} {i : Nat} (hs : DStep xs D i D') : AJ x z D' := by
 have h1 : ∀ D1, D1 = (if D.wk[i]? = some none then giveD D i else D) -> AJ x z D1 := by
  intro D1 e
  rw [e]
  split
  ·rename_i hi; exact h.give hi
  ·exact h
 cases hs with
 | idle _ he h2 => exact h1 _ he
 | work D1 he j h2 r r' t fin hr ht hs => exact (h1 D1 he).work h2 hr ht hs
theorem AJ.told {x z : Nod} {D : Dk} (h : AJ x z D) : (pollR D 1).is = 2 -> (pollR D 2).is = 1 /\ (pollR D 2).st = 0 := by
 obtain ⟨a, b, c, hrs, -, -, -, -, ha2⟩ := h.ex
 have e1 : pollR D 1 = a := pollR_at (D := D) (n := 0) (by rw [hrs]; rfl)
 have e2 : pollR D 2 = b := pollR_at (D := D) (n := 1) (by rw [hrs]; rfl)
 rw [e1, e2]
 intro e
 exact ⟨(ha2 e).1, (ha2 e).2.1⟩
def aT (now : List ByteArray) (s : ByteArray) : Tk := tkOf now s 1000000 1000000000
def aD (now : List ByteArray) (n1 n2 : ByteArray) : Dk := takeD (takeD (takeD (newD 4 6) (aT now n1)) (aT now n2)) (aT now qzB)
theorem aD_full (now : List ByteArray) (n1 n2 : ByteArray) : fullD (newD 4 6) = false /\ fullD (takeD (newD 4 6) (aT now n1)) = false /\ fullD (takeD (takeD (newD 4 6) (aT now n1)) (aT now n2)) = false := by
 have key : ∀ D : Dk, D.qu = 6 -> D.rs.length <= 2 -> fullD D = false := by
  intro D h1 h2
  unfold fullD
  have := waitN_le D.rs
  rw [h1, Bool.or_eq_false_iff]
  exact ⟨decide_eq_false (by omega), decide_eq_false (by omega)⟩
 exact ⟨key _ rfl (by decide), key _ rfl (by show ([] ++ [_]).length <= 2; simp), key _ rfl (by show (([] ++ [_]) ++ [_]).length <= 2; simp)⟩
theorem aD_rs (now : List ByteArray) (n1 n2 : ByteArray) : (aD now n1 n2).rs = [newR (aT now n1), newR (aT now n2), newR (aT now qzB)] := by
 have e : ∀ s, lateR 0 (newR (aT now s)) = newR (aT now s) := fun s => lateR_new (by show ¬ (1000000000 : Int) <= 0; decide)
 show [] ++ [lateR 0 (newR (aT now n1))] ++ [lateR 0 (newR (aT now n2))] ++ [lateR 0 (newR (aT now qzB))] = _
 rw [e, e, e]; rfl
theorem new_lv (t : Tk) : (newR t).tk = none ↔ ¬ ((newR t).is = 1 \/ (newR t).is = 2) := ⟨(fun e => by cases e), fun e => absurd (Or.inl rfl) e⟩
theorem aD_step {now : List ByteArray} {n1 n2 : ByteArray} {x : Nod} (h1 : queX n1 = x) (h2 : queX n2 = x) {D' : Dk} (h : DStep krules (aD now n1 n2) 2 D') :
  ∃ (A : Rq) (fin : Bool), D'.rs = [A, newR (aT now n2), newR (aT now qzB)] /\ A.st = 1 /\ D'.wk[0]? = some none /\ AJ x zX D' /\ (fin = true -> A.is = 3 /\ ∀ n, CostN krules now x n -> n = 1) /\ (fin = false -> A.is = 2 /\ D'.wk = [none, none, some 0, none] /\ A.tk = some (aT now n1) /\ ∀ n, CostN krules now x n -> 1 < n) := by
 have hrs := aD_rs now n1 n2
 have hwk : (aD now n1 n2).wk = [none, none, none, none] := rfl
 have hbz : ∀ y, busyN (aD now n1 n2) y = false := by
  intro y; unfold busyN; rw [hwk]; rfl
 have hmay : mayR (aD now n1 n2) (newR (aT now n1)) = true := by
  unfold mayR
  show (waitsR (newR (aT now n1)) && !busyN (aD now n1 n2) (aT now n1).x) = true
  rw [hbz]; rfl
 have hg : giveD (aD now n1 n2) 2 = { aD now n1 n2 with rs := (aD now n1 n2).rs.set 0 { newR (aT now n1) with is := 2 }, wk := (aD now n1 n2).wk.set 2 (some 0) } := giveD_some (by rw [hrs]; rfl) hmay (fun k r hk => by omega)
 have hw1 : (aD now n1 n2).wk[2]? = some none := by rw [hwk]; rfl
 cases h with
 | idle _ he h2 =>
  rw [if_pos hw1, hg] at he
  rw [he] at h2
  have h2' : ((aD now n1 n2).wk.set 2 (some 0))[2]? = some none := h2
  rw [hwk] at h2'
  cases h2'
 | work D1 he j hj2 r r' t fin hr ht hs =>
  rw [if_pos hw1, hg] at he
  subst he
  have hj' : ((aD now n1 n2).wk.set 2 (some 0))[2]? = some (some j) := hj2
  rw [hwk] at hj'
  have hj : j = 0 := by
   injection hj' with hj'
   injection hj' with hj'
   exact hj'.symm
  subst hj
  have hr' : ((aD now n1 n2).rs.set 0 { newR (aT now n1) with is := 2 })[0]? = some r := hr
  rw [hrs] at hr'
  injection hr' with hr'
  subst hr'
  have ht' : some (aT now n1) = some t := ht
  injection ht' with ht'
  subst ht'
  have hx : (aT now n1).x = x := h1
  have key : ∀ A C : Rq, ((aD now n1 n2).rs.set 0 A).set 0 C = [C, newR (aT now n2), newR (aT now qzB)] := by
   intro A C; rw [hrs]; rfl
  have hR : (dismissD { ({ aD now n1 n2 with rs := (aD now n1 n2).rs.set 0 { newR (aT now n1) with is := 2 }, wk := (aD now n1 n2).wk.set 2 (some 0) } : Dk) with rs := ((aD now n1 n2).rs.set 0 { newR (aT now n1) with is := 2 }).set 0 r' }).rs = [r', newR (aT now n2), newR (aT now qzB)] := key { newR (aT now n1) with is := 2 } r'
  have hW : (dismissD { ({ aD now n1 n2 with rs := (aD now n1 n2).rs.set 0 { newR (aT now n1) with is := 2 }, wk := (aD now n1 n2).wk.set 2 (some 0) } : Dk) with rs := ((aD now n1 n2).rs.set 0 { newR (aT now n1) with is := 2 }).set 0 r' }).wk = [none, none, (if r'.tk.isSome = true then some 0 else none), none] := by
   show ((aD now n1 n2).wk.set 2 (some 0)).map (dismW (((aD now n1 n2).rs.set 0 { newR (aT now n1) with is := 2 }).set 0 r')) = _
   rw [key, hwk]
   rfl
  obtain ⟨hst, hor⟩ := stepR_is hs rfl rfl
  have hcost := hs.cost
  rw [hx] at hcost
  refine ⟨r', fin, hR, hst, by rw [hW]; rfl, ⟨⟨r', _, _, hR, fun s hs' => ?_, fun s hs' => ?_, fun s hs' => ?_, ?_, fun e => ?_⟩, by rw [hW]; rfl, fun i' j' q hi' hq => ?_, fun j' q hq => ?_⟩, fun e => ⟨(hs.done e).1, fun n hn => ((hcost n hn).1 e).symm⟩, fun e => ?_⟩
  ·rcases hor with ⟨q1, -⟩ | ⟨q1, -, -⟩
   ·rw [q1] at hs'; cases hs'
   ·rw [q1] at hs'
    injection hs' with hs'
    rw [← hs']; exact hx
  ·injection hs' with hs'
   rw [← hs']; exact h2
  ·injection hs' with hs'
   rw [← hs']; exact qz_ok.2
  ·rcases hor with ⟨-, q | q⟩ | ⟨-, q, -⟩ <;> rw [q] <;> decide
  ·refine ⟨rfl, rfl, 2, ?_⟩
   rcases hor with ⟨-, q | q⟩ | ⟨q, -, -⟩
   ·rw [q] at e; cases e
   ·rw [q] at e; cases e
   ·rw [hW, q]; rfl
  ·rw [hW] at hi'
   have hj0 : j' = 0 /\ r'.tk.isSome = true := by
    match i', hi' with
    | 0, hi' => cases hi'
    | 1, hi' => cases hi'
    | 2, hi' =>
     have hi' : some (if r'.tk.isSome = true then some 0 else none) = some (some j') := hi'
     injection hi' with hi'
     split at hi'
     ·rename_i hl
      injection hi' with hi'
      exact ⟨hi'.symm, hl⟩
     ·cases hi'
    | 3, hi' => cases hi'
    | i' + 4, hi' => simp at hi'
   rw [hR, hj0.1] at hq
   have hq : some r' = some q := hq
   injection hq with hq
   rw [← hq]
   rcases hor with ⟨q1, -⟩ | ⟨-, q2, -⟩
   ·have := hj0.2
    rw [q1] at this; cases this
   ·exact q2
  ·rw [hR] at hq
   rcases three_get hq with ⟨-, e⟩ | ⟨-, e⟩ | ⟨-, e⟩
   ·rw [e]
    rcases hor with ⟨q1, q2⟩ | ⟨q1, q2, -⟩
    ·exact ⟨fun _ => by omega, fun _ => q1⟩
    ·exact ⟨(fun e => by rw [q1] at e; cases e), fun e => absurd (Or.inr q2) e⟩
   ·rw [e]; exact new_lv _
   ·rw [e]; exact new_lv _
  ·have hon := hs.on e (by show ((0 : Nat) : Int) + 1 ≠ 1000000; decide)
   have ht : r'.tk = some (aT now n1) := by rw [hon]; rfl
   refine ⟨by rw [hon], by rw [hW, ht]; rfl, ht, fun n hn => ?_⟩
   have := (hcost n hn).2 e
   exact this
theorem AJ.keep0 {x z : Nod} {D D' : Dk} (h : AJ x z D) {xs : List ByteArray} {i : Nat} (hs : DStep xs D i D') {A : Rq} (hA : D.rs[0]? = some A) (h3 : A.is = 3) : D'.rs[0]? = some A := by
 have h1 : ∀ D1, D1 = (if D.wk[i]? = some none then giveD D i else D) -> AJ x z D1 /\ D1.rs[0]? = some A := by
  intro D1 e
  rw [e]
  split
  ·rename_i hi
   refine ⟨h.give hi, ?_⟩
   unfold giveD
   cases he : D.rs.findIdx? (mayR D) with
   | none => exact hA
   | some j =>
    obtain ⟨hj1, hj2, -⟩ := List.findIdx?_eq_some_iff_getElem.1 he
    have hjr : D.rs[j]? = some D.rs[j] := List.getElem?_eq_getElem hj1
    show (D.rs.modify j _)[0]? = some A
    rw [modify_set _ hjr]
    by_cases e0 : j = 0
    ·subst e0
     rw [hjr] at hA
     injection hA with hA
     unfold mayR at hj2
     rw [Bool.and_eq_true] at hj2
     have := of_decide_eq_true hj2.1
     rw [hA, h3] at this
     cases this
    ·rw [List.getElem?_set_ne e0]; exact hA
  ·exact ⟨h, hA⟩
 cases hs with
 | idle _ he h2 => exact (h1 _ he).2
 | work D1 he j h2 r r' t fin hr ht hs =>
  obtain ⟨g1, g2⟩ := h1 D1 he
  have his := g1.own i j r h2 hr
  show (D1.rs.set j r')[0]? = some A
  by_cases e0 : j = 0
  ·subst e0
   rw [hr] at g2
   injection g2 with g2
   rw [g2, h3] at his
   cases his
  ·rw [List.getElem?_set_ne e0]; exact g2
theorem aD_step2 {l now : List ByteArray} (hh : HeldT l now) {n1 n2 : ByteArray} {x : Nod} (hxz : x ≠ zX) (h1 : queX n1 = x) (h2 : queX n2 = x) {D D' : Dk} {A : Rq} (hrs : D.rs = [A, newR (aT now n2), newR (aT now qzB)]) (hwk : D.wk = [none, none, some 0, none]) (hA2 : A.is = 2) (hAt : A.tk = some (aT now n1)) (h : DStep krules D 0 D') : ∃ C, D'.rs = [A, newR (aT now n2), C] /\ C.is = 3 := by
 have hnode : ∀ y, busyN D y = decide (x = y) := by
  intro y
  unfold busyN
  rw [hwk]
  show (false || (false || (decide (nodeW D.rs (some 0) = some y) || (false || false)))) = _
  have e : nodeW D.rs (some 0) = some x := by
   unfold nodeW
   show (D.rs[0]?.bind fun r => r.tk.map Tk.x) = some x
   rw [hrs]
   show A.tk.map Tk.x = some x
   rw [hAt, ← h1]; rfl
  rw [e]
  simp
 have hm0 : mayR D A = false := by unfold mayR waitsR; rw [hA2]; rfl
 have hm1 : mayR D (newR (aT now n2)) = false := by
  unfold mayR
  show (waitsR (newR (aT now n2)) && !busyN D (aT now n2).x) = false
  rw [hnode, show (aT now n2).x = x from h2]; simp
 have hm2 : mayR D (newR (aT now qzB)) = true := by
  unfold mayR
  show (waitsR (newR (aT now qzB)) && !busyN D (aT now qzB).x) = true
  rw [hnode, show (aT now qzB).x = zX from qz_ok.2, decide_eq_false hxz]; rfl
 have hg : giveD D 0 = { D with rs := D.rs.set 2 { newR (aT now qzB) with is := 2 }, wk := D.wk.set 0 (some 2) } := giveD_some (by rw [hrs]; rfl) hm2 (fun k r hk hr => by
  rw [hrs] at hr
  rcases three_get hr with ⟨-, e⟩ | ⟨-, e⟩ | ⟨e, -⟩
  ·rw [e]; exact hm0
  ·rw [e]; exact hm1
  ·omega)
 have hw1 : D.wk[0]? = some none := by rw [hwk]; rfl
 cases h with
 | idle _ he h2 =>
  rw [if_pos hw1, hg] at he
  rw [he] at h2
  have h2' : (D.wk.set 0 (some 2))[0]? = some none := h2
  rw [hwk] at h2'
  cases h2'
 | work D1 he j hj2 r r' t fin hr ht hs =>
  rw [if_pos hw1, hg] at he
  subst he
  have hj' : (D.wk.set 0 (some 2))[0]? = some (some j) := hj2
  rw [hwk] at hj'
  have hj : j = 2 := by
   injection hj' with hj'
   injection hj' with hj'
   exact hj'.symm
  subst hj
  have hr' : (D.rs.set 2 { newR (aT now qzB) with is := 2 })[2]? = some r := hr
  rw [hrs] at hr'
  injection hr' with hr'
  subst hr'
  have ht' : some (aT now qzB) = some t := ht
  injection ht' with ht'
  subst ht'
  have hcost := hs.cost 1 (by rw [show (aT now qzB).x = zX from qz_ok.2]; exact z_cost hh)
  have hf : fin = true := by
   cases fin with
   | true => rfl
   | false =>
    have h9 : (0 : Nat) + 1 < 1 := hcost.2 rfl
    omega
  refine ⟨r', ?_, (hs.done hf).1⟩
  have key : ∀ A0 C0 : Rq, (D.rs.set 2 A0).set 2 C0 = [A, newR (aT now n2), C0] := by
   intro A0 C0; rw [hrs]; rfl
  exact key { newR (aT now qzB) with is := 2 } r'
theorem a_chain (HN : Hid NodeC) (HW : Hid TWayC) {w : World} {gb : Nat} {l now : List ByteArray} {n0 : Int} {w3 : World} (ht : TSt w gb n0 now (newD 4 6) false [] w3) (hh : HeldT l now) {k : Nat} (hk : k < 6) (a : Nat) :
  Calls Tryz.prog 27 #[.pointer (some ⟨gb, 0, none⟩), .string (kNd k a), .int .i64 1000000, .int .i64 1000000000] w3 fun e w4 => e = .returned (.tuple #[.int .i64 1, .int .i64 0]) /\
  Hid (Calls Tryz.prog 27 #[.pointer (some ⟨gb, 0, none⟩), .string (kNd k a ++ uaB), .int .i64 1000000, .int .i64 1000000000] w4 fun e w5 => e = .returned (.tuple #[.int .i64 2, .int .i64 0]) /\
  Hid (Calls Tryz.prog 27 #[.pointer (some ⟨gb, 0, none⟩), .string qzB, .int .i64 1000000, .int .i64 1000000000] w5 fun e w6 => e = .returned (.tuple #[.int .i64 3, .int .i64 0]) /\
  Hid (Calls Tryz.prog 28 #[.pointer (some ⟨gb, 0, none⟩), .int .i64 2] w6 fun e w7 => e = .returned (.int .i64 0) /\
  Hid (Calls Tryz.prog 28 #[.pointer (some ⟨gb, 0, none⟩), .int .i64 0] w7 fun e w8 => e = .returned (.int .i64 0) /\
  Hid (Calls Tryz.prog 29 #[.pointer (some ⟨gb, 0, none⟩), .int .i64 1] w8 fun e w9 => ∃ (i1 : Int), ∃ al1 o1 c1 m1, e = .returned (.agg #[.int .i64 i1, .int .i64 1, .bool al1, .slice o1 m1 c1]) /\
  Hid (Calls Tryz.prog 29 #[.pointer (some ⟨gb, 0, none⟩), .int .i64 2] (w9.alloc (.cells #[.int .i64 i1, .int .i64 1, .bool al1, .slice o1 m1 c1] 51)) fun e w10 => ∃ (i2 : Int) (s2 : Nat), ∃ al2 o2 c2 m2, e = .returned (.agg #[.int .i64 i2, .int .i64 s2, .bool al2, .slice o2 m2 c2]) /\
  Hid (Calls Tryz.prog 29 #[.pointer (some ⟨gb, 0, none⟩), .int .i64 3] (w10.alloc (.cells #[.int .i64 i2, .int .i64 s2, .bool al2, .slice o2 m2 c2] 51)) fun e w11 => ∃ (i3 : Int) (s3 : Nat), ∃ al3 o3 c3 m3, e = .returned (.agg #[.int .i64 i3, .int .i64 s3, .bool al3, .slice o3 m3 c3]) /\
  Hid (Calls Tryz.prog 20 #[.pointer (some ⟨gb, 0, none⟩), .string (kNd k a)] (w11.alloc (.cells #[.int .i64 i3, .int .i64 s3, .bool al3, .slice o3 m3 c3] 51)) fun e w12 => ∃ n : Nat, e = .returned (.tuple #[.int .i64 n, .int .i64 0]) /\ n <= 32000000 /\ (¬ 1 < n \/ (1 < n /\ i1 = 2 /\ i2 = 1 /\ s2 = 0 /\ i3 = 3)) /\
   w12.cell? ⟨w9.heap.size, 0, none⟩ = some (.int .i64 i1) /\ w12.cell? ⟨w9.heap.size, 1, none⟩ = some (.int .i64 1) /\ w12.cell? ⟨w10.heap.size, 0, none⟩ = some (.int .i64 i2) /\ w12.cell? ⟨w10.heap.size, 1, none⟩ = some (.int .i64 s2) /\ w12.cell? ⟨w11.heap.size, 0, none⟩ = some (.int .i64 i3) /\
   Hid (w.heap.size <= w9.heap.size /\ w9.heap.size < w10.heap.size /\ ∃ D, AJ (kNN k a) zX D /\ TSt w gb n0 now D false [(w10.heap.size, stL i2 s2 al2 (.slice o2 m2 c2)), (w9.heap.size, stL i1 1 al1 (.slice o1 m1 c1))] w12))))))))) := by
 obtain ⟨n1, n2, n3⟩ := nd_ok hk a
 obtain ⟨u1, u2, u3⟩ := ndu_ok hk a
 obtain ⟨f1, f2, f3⟩ := aD_full now (kNd k a) (kNd k a ++ uaB)
 refine (t_submit HN ht (s := kNd k a) n3 n1 (bud := 1000000) (til := 1000000000) (by decide) (by decide) (by decide) (by decide) f1).mono ?_
 rintro e w4 ⟨he4, ht4⟩
 refine ⟨he4, ?_⟩
 refine (t_submit HN ht4 (s := kNd k a ++ uaB) u3 u1 (bud := 1000000) (til := 1000000000) (by decide) (by decide) (by decide) (by decide) f2).mono ?_
 rintro e w5 ⟨he5, ht5⟩
 refine ⟨he5, ?_⟩
 refine (t_submit HN ht5 (s := qzB) (by unfold maxLen; decide) qz_ok.1 (bud := 1000000) (til := 1000000000) (by decide) (by decide) (by decide) (by decide) f3).mono ?_
 rintro e w6 ⟨he6, ht6⟩
 refine ⟨he6, ?_⟩
 refine (t_step HW ht6 (i := 2) (by show 2 < 4; decide)).mono ?_
 rintro e w7 ⟨he7, D7, hd7, ht7⟩
 refine ⟨he7, ?_⟩
 obtain ⟨A, fin, hrs7, hst7, hw0, hJ7, hft, hff⟩ := aD_step n2 u2 hd7
 refine (t_step HW ht7 (i := 0) (by rw [hJ7.wl]; decide)).mono ?_
 rintro e w8 ⟨he8, D8, hd8, ht8⟩
 refine ⟨he8, ?_⟩
 have hJ8 := hJ7.step hd8
 have hkey : pollR D8 1 = A /\ (∀ n, CostN krules now (kNN k a) n -> ¬ 1 < n \/ (1 < n /\ (pollR D8 1).is = 2 /\ (pollR D8 2).is = 1 /\ (pollR D8 2).st = 0 /\ (pollR D8 3).is = 3)) := by
  cases hfi : fin with
  | true =>
   obtain ⟨q1, q2⟩ := hft hfi
   have h0 := hJ7.keep0 hd8 (A := A) (by rw [hrs7]; rfl) q1
   refine ⟨pollR_at (D := D8) (n := 0) h0, fun n hn => Or.inl ?_⟩
   rw [q2 n hn]; decide
  | false =>
   obtain ⟨q1, q2, q3, q4⟩ := hff hfi
   obtain ⟨C, hrs8, hC⟩ := aD_step2 hh (kNN_z a) n2 u2 hrs7 q2 q1 q3 hd8
   have e1 : pollR D8 1 = A := pollR_at (D := D8) (n := 0) (by rw [hrs8]; rfl)
   have e2 : pollR D8 2 = newR (aT now (kNd k a ++ uaB)) := pollR_at (D := D8) (n := 1) (by rw [hrs8]; rfl)
   have e3 : pollR D8 3 = C := pollR_at (D := D8) (n := 2) (by rw [hrs8]; rfl)
   refine ⟨e1, fun n hn => Or.inr ⟨q4 n hn, ?_⟩⟩
   rw [e1, e2, e3]
   exact ⟨q1, rfl, rfl, hC⟩
 obtain ⟨k1, k2⟩ := hkey
 have hs1 : (pollR D8 1).st = 1 := by rw [k1]; exact hst7
 refine (t_pollN ht8 1 rfl).mono ?_
 rintro e w9 ⟨al1, o1, c1, m1, he9, -, z9, HT9⟩
 rw [hs1] at he9 HT9
 refine ⟨_, al1, o1, c1, m1, he9, ?_⟩
 refine (t_pollN HT9.out 2 rfl).mono ?_
 rintro e w10 ⟨al2, o2, c2, m2, he10, z10, -, HT10⟩
 refine ⟨_, _, al2, o2, c2, m2, he10, ?_⟩
 refine (t_pollN HT10.out 3 rfl).mono ?_
 rintro e w11 ⟨al3, o3, c3, m3, he11, z11, -, HT11⟩
 refine ⟨_, _, al3, o3, c3, m3, he11, ?_⟩
 have s3 : ∀ (v : World) (o : Obj), (v.alloc o).heap.size = v.heap.size + 1 := fun v o => by show (v.heap.push _).size = _; simp
 rw [s3] at z10 z11
 refine (t_cost HN HW HT11.out n3 n1).mono ?_
 rintro e w12 ⟨n, he12, hn, hcn, ht12⟩
 rw [n2] at hcn
 refine ⟨n, he12, hn, k2 n hcn, row_cell (ht12.get (.tail _ (.tail _ (.head _)))) (j := 0) rfl, row_cell (ht12.get (.tail _ (.tail _ (.head _)))) (j := 1) rfl, row_cell (ht12.get (.tail _ (.head _))) (j := 0) rfl, row_cell (ht12.get (.tail _ (.head _))) (j := 1) rfl, row_cell (ht12.get (.head _)) (j := 0) rfl, z9, by omega, D8, hJ8, ?_⟩
 obtain ⟨g, m, lo, R, Q, q1, q2, q3, q4⟩ := ht12.kd
 exact ⟨⟨g, m, lo, R, Q, q1, q2, q3, fun p hp => q4 p (.tail _ hp)⟩, ht12.below⟩
theorem t_pollT {W : World} {gb : Nat} {n : Int} {now : List ByteArray} {D : Dk} {cl : Bool} {Ls : List (Nat × List Value)} {w : World} (h : TSt W gb n now D cl Ls w) (id : Int) {is : Int} (hi : (pollR D id).is = is) {b : Nat} {i0 : Int} {s0 : Nat} {al0 : Bool} {v0 : Value} (hb : (b, stL i0 s0 al0 v0) ∈ Ls) (hW : W.heap.size <= b) {Ls0 : List (Nat × List Value)} (hL : ∀ p ∈ Ls0, p ∈ Ls /\ p.1 ≠ b) :
  Calls Tryz.prog 29 #[.pointer (some ⟨gb, 0, none⟩), .int .i64 id] w fun e w' => ∃ al o c m, e = .returned (.agg #[.int .i64 is, .int .i64 (pollR D id).st, .bool al, .slice o m c]) /\ Hid (w'.heap[b]? = some (.cells (stL i0 s0 al0 v0).toArray 51 (0, 0))) /\ Hid (TSt W gb n now D cl ((b, stL is (pollR D id).st al (.slice o m c)) :: Ls0) ((((w'.setCell ⟨b, 0, none⟩ (.int .i64 is)).setCell ⟨b, 1, none⟩ (.int .i64 (pollR D id).st)).setCell ⟨b, 2, none⟩ (.bool al)).setCell ⟨b, 3, none⟩ (.slice o m c))) := by
 refine (t_poll h id).mono ?_
 rintro e w' ⟨o, c, rfl, -, -, ht⟩
 rw [hi]
 have hg := ht.get hb
 refine ⟨_, o, c, _, rfl, hg, ?_⟩
 refine ht.set hb hW ((((frm_set _ _ _ _).trans (frm_set _ _ _ _) fun _ _ e => e).trans (frm_set _ _ _ _) fun _ _ e => e).trans (frm_set _ _ _ _) fun _ _ e => e) (row_set (row_set (row_set (row_set hg 0 _) 1 _) 2 _) 3 _) fun p hp => ?_
 rcases List.mem_cons.1 hp with e | e
 ·exact Or.inl e
 ·exact Or.inr (hL p e)
theorem a_round (HW : Hid TWayC) {w : World} {gb : Nat} {now : List ByteArray} {n0 : Int} {x : Nod} {D : Dk} (hJ : AJ x zX D) {b1 b2 : Nat} {i1 i2 : Int} {s1 s2 : Nat} {a1 a2 : Bool} {v1 v2 : Value} {wr : World} (hb1 : w.heap.size <= b1) (h12 : b1 < b2) (ht : TSt w gb n0 now D false [(b2, stL i2 s2 a2 v2), (b1, stL i1 s1 a1 v1)] wr) {p : Nat} (hp : p < 4) :
  Calls Tryz.prog 28 #[.pointer (some ⟨gb, 0, none⟩), .int .i64 p] wr fun e w1 => e = .returned (.int .i64 0) /\
  Hid (Calls Tryz.prog 29 #[.pointer (some ⟨gb, 0, none⟩), .int .i64 1] w1 fun e w2 => ∃ (j1 : Int) (t1 : Nat), ∃ al1 o1 c1 m1, e = .returned (.agg #[.int .i64 j1, .int .i64 t1, .bool al1, .slice o1 m1 c1]) /\ Hid (w2.heap[b1]? = some (.cells (stL i1 s1 a1 v1).toArray 51 (0, 0))) /\
  Hid (Calls Tryz.prog 29 #[.pointer (some ⟨gb, 0, none⟩), .int .i64 2] ((((w2.setCell ⟨b1, 0, none⟩ (.int .i64 j1)).setCell ⟨b1, 1, none⟩ (.int .i64 t1)).setCell ⟨b1, 2, none⟩ (.bool al1)).setCell ⟨b1, 3, none⟩ (.slice o1 m1 c1)) fun e w3 => ∃ (j2 : Int) (t2 : Nat), ∃ al2 o2 c2 m2, e = .returned (.agg #[.int .i64 j2, .int .i64 t2, .bool al2, .slice o2 m2 c2]) /\ Hid (w3.heap[b2]? = some (.cells (stL i2 s2 a2 v2).toArray 51 (0, 0))) /\ w3.cell? ⟨b1, 0, none⟩ = some (.int .i64 j1) /\ ((j1 == 2) = false \/ (j1 = 2 /\ j2 = 1 /\ t2 = 0)) /\
   Hid (∃ D', AJ x zX D' /\ TSt w gb n0 now D' false [(b2, stL j2 t2 al2 (.slice o2 m2 c2)), (b1, stL j1 t1 al1 (.slice o1 m1 c1))] ((((w3.setCell ⟨b2, 0, none⟩ (.int .i64 j2)).setCell ⟨b2, 1, none⟩ (.int .i64 t2)).setCell ⟨b2, 2, none⟩ (.bool al2)).setCell ⟨b2, 3, none⟩ (.slice o2 m2 c2))))) := by
 refine (t_step HW ht (i := p) (by rw [hJ.wl]; exact hp)).mono ?_
 rintro e w1 ⟨he1, D', hd, ht1⟩
 refine ⟨he1, ?_⟩
 have hJ' := hJ.step hd
 have htold := hJ'.told
 refine (t_pollT ht1 1 rfl (b := b1) (.tail _ (.head _)) hb1 (Ls0 := [(b2, stL i2 s2 a2 v2)]) (fun q hq => by
  rw [List.mem_singleton] at hq
  subst hq
  exact ⟨.head _, by show b2 ≠ b1; omega⟩)).mono ?_
 rintro e w2 ⟨al1, o1, c1, m1, he2, hk2, HT2⟩
 refine ⟨_, _, al1, o1, c1, m1, he2, hk2, ?_⟩
 refine (t_pollT HT2.out 2 rfl (b := b2) (.tail _ (.head _)) (by omega) (Ls0 := [(b1, stL (pollR D' 1).is (pollR D' 1).st al1 (.slice o1 m1 c1))]) (fun q hq => by
  rw [List.mem_singleton] at hq
  subst hq
  exact ⟨.head _, by show b1 ≠ b2; omega⟩)).mono ?_
 rintro e w3 ⟨al2, o2, c2, m2, he3, hk3, HT3⟩
 have hne : b1 ≠ b2 := by omega
 have hf : Frm (fun k => k = b2) w3 ((((w3.setCell ⟨b2, 0, none⟩ (.int .i64 (pollR D' 2).is)).setCell ⟨b2, 1, none⟩ (.int .i64 (pollR D' 2).st)).setCell ⟨b2, 2, none⟩ (.bool al2)).setCell ⟨b2, 3, none⟩ (.slice o2 m2 c2)) := (((frm_set _ _ _ _).trans (frm_set _ _ _ _) fun _ _ e => e).trans (frm_set _ _ _ _) fun _ _ e => e).trans (frm_set _ _ _ _) fun _ _ e => e
 have hg1 := HT3.out.get (.tail _ (.head _))
 have hsz : ((((w3.setCell ⟨b2, 0, none⟩ (.int .i64 (pollR D' 2).is)).setCell ⟨b2, 1, none⟩ (.int .i64 (pollR D' 2).st)).setCell ⟨b2, 2, none⟩ (.bool al2)).setCell ⟨b2, 3, none⟩ (.slice o2 m2 c2)).heap.size = w3.heap.size := by rw [setSz, setSz, setSz, setSz]
 have hl1 : b1 < w3.heap.size := by rw [← hsz]; exact row_lt hg1
 have hg3 : w3.heap[b1]? = some (.cells (stL (pollR D' 1).is (pollR D' 1).st al1 (.slice o1 m1 c1)).toArray 51 (0, 0)) := (hf.block b1 hl1 hne).symm.trans hg1
 refine ⟨_, _, al2, o2, c2, m2, he3, hk3, row_cell hg3 (j := 0) rfl, ?_, D', hJ', HT3.out⟩
 by_cases e2 : (pollR D' 1).is = 2
 ·exact Or.inr ⟨e2, htold e2⟩
 ·exact Or.inl (by rw [int_beq]; exact decide_eq_false e2)
theorem kNodeU (c : Int) (h1 : -9223372036854775808 <= c) (h2 : c <= 9223372036854775807) :
  ∃ k a, k < 6 /\ ∀ w, Calls Tryz.prog 22 #[.int .i64 c] w fun e w' => e = .returned (.string (kNd k a)) /\ Below w.heap.size w w' := by
 have hp := fun w => kPick_any c 1099511627776 w h1 h2 (by decide) (by decide)
 obtain ⟨b1, b2⟩ := pickN_bd c 1099511627776 (by decide)
 obtain ⟨v, hv⟩ := Int.eq_ofNat_of_zero_le b1
 rw [hv] at hp b2
 exact ⟨v % 6, v / 16, by omega, fun w => kNode_k c v (v % 6) w (hp w) (by omega) rfl (by omega)⟩
theorem pickM (m : Nat) (hm : 0 < m) (hm2 : m <= 1000) (x : Int) (h1 : -9223372036854775808 <= x) (h2 : x <= 9223372036854775807) : ∃ k : Nat, k < m /\ ∀ w1, Calls Tryz.prog 17 #[.int .i64 x, .int .i64 (m : Nat)] w1 fun e w' => e = .returned (.int .i64 (k : Nat)) /\ w' = w1 := by
 obtain ⟨b1, b2⟩ := pickN_bd x (m : Nat) (by omega)
 have hpk := fun w1 => kPick_any x (m : Nat) w1 h1 h2 (by omega) (by omega)
 obtain ⟨f, hf⟩ := Int.eq_ofNat_of_zero_le b1
 rw [hf] at hpk b2
 exact ⟨f, by omega, hpk⟩
theorem nd_small : ∀ k, k < 6 -> ∀ a, a < 4 -> (kNd k a).size <= 20 := by decide +kernel
theorem nd_size {k : Nat} (hk : k < 6) (a : Nat) : (kNd k a).size <= 20 := by
 rw [kNd_mod]; exact nd_small k hk _ (Nat.mod_lt _ (by decide))
theorem alone_any (HN : Hid NodeC) (HW : Hid TWayC) {w : World} {rv : Value} {cs : List Int} (hr : IntsAt w rv cs) (hcs : ∀ c ∈ cs, -9223372036854775808 <= c /\ c <= 9223372036854775807) (hl : cs.length <= 9223372036854775807) (wh : Int) (hw1 : -9223372036854775808 <= wh) (hw2 : wh <= 9223372036854775807) {sv : Value} {ss : List Int} (hsr : IntsAt w sv ss) (hss : ∀ c ∈ ss, -9223372036854775808 <= c /\ c <= 9223372036854775807) (hsl : ss.length <= 9223372036854775807) :
  Calls Tryz.prog 10 #[rv, .int .i64 wh, sv] w fun e w' => e = .returned (.bool true) /\ Below w.heap.size w w' := by
 have HOP : Hid (Calls Tryz.prog 14 #[.int .i64 4, .int .i64 6] w fun e w' => ∃ gb, e = .returned (.pointer (some ⟨gb, 0, none⟩)) /\ TSt w gb 1 know0 (newD 4 6) false [] w') := t_open HN HW w 4 6 (by decide) (by decide) (by decide) (by decide)
 have HPT : Hid (∀ gb w1, TSt w gb 1 know0 (newD 4 6) false [] w1 -> Calls Tryz.prog 15 #[.pointer (some ⟨gb, 0, none⟩), rv, .int .i64 15] w1 fun e w2 => ∃ o n c, e = .returned (.tuple #[.slice o n c, .bool true]) /\ Hid (TSt w gb 16 (putN know0 (putL cs 15)) (newD 4 6) false [] w2)) := by
  intro gb w1 h
  refine (t_put hr hcs hl h (by decide) 15 (by decide) (by decide)).mono ?_
  rintro e w2 ⟨o, c, rfl, ht, -⟩
  exact ⟨o, _, c, rfl, ht⟩
 have HHT : Hid (∀ gb w1, TSt w gb 16 (putN know0 (putL cs 15)) (newD 4 6) false [] w1 -> HeldT (putL cs 15) (putN know0 (putL cs 15))) := fun gb w1 h => t_heldT h (putL_ks cs 15)
 obtain ⟨k, a, hk, hnd⟩ := kNodeU wh hw1 hw2
 have HND : Hid (∀ w1, Calls Tryz.prog 22 #[.int .i64 wh] w1 fun e w' => e = .returned (.string (kNd k a)) /\ Below w1.heap.size w1 w') := hnd
 have HCH : Hid (∀ gb w3, TSt w gb 16 (putN know0 (putL cs 15)) (newD 4 6) false [] w3 -> Calls Tryz.prog 27 #[.pointer (some ⟨gb, 0, none⟩), .string (kNd k a), .int .i64 1000000, .int .i64 1000000000] w3 _) := fun gb w3 h => a_chain HN HW h (HHT.out gb w3 h) hk a
 have HRD : Hid (∀ gb D b1 b2 i1 i2 s1 s2 a1 a2 v1 v2 wr p, AJ (kNN k a) zX D -> w.heap.size <= b1 -> b1 < b2 -> TSt w gb 16 (putN know0 (putL cs 15)) D false [(b2, stL i2 s2 a2 v2), (b1, stL i1 s1 a1 v1)] wr -> p < 4 -> Calls Tryz.prog 28 #[.pointer (some ⟨gb, 0, none⟩), .int .i64 (p : Nat)] wr _) := fun gb D b1 b2 i1 i2 s1 s2 a1 a2 v1 v2 wr p hJ h1 h2 h3 hp => a_round HW hJ h1 h2 h3 hp
 have hnsz := nd_size hk a
 have hrv : ∃ x n c, rv = .slice x n c := by
  rcases hr with ⟨⟨x, c, rfl⟩, -⟩ | ⟨b, off, cap, rfl, -⟩
  ·exact ⟨_, _, _, rfl⟩
  ·exact ⟨_, _, _, rfl⟩
 obtain ⟨rx, rn, rc, rfl⟩ := hrv
 obtain ⟨sx, sc, hsv, HC⟩ : ∃ sx sc, sv = .slice sx ss.length sc /\ Hid (∀ (i : Nat) (c : Int), ss[i]? = some c -> ∃ b off, sx = some ⟨b, off, none⟩ /\ b < w.heap.size /\ w.cell? ⟨b, off + i, none⟩ = some (.int .i64 c)) := by
  rcases hsr with ⟨⟨x, c, rfl⟩, rfl⟩ | ⟨b, off, cap, rfl, hb, hc⟩
  ·exact ⟨x, c, rfl, fun i c h => by simp at h⟩
  ·exact ⟨_, cap, rfl, fun i c h => ⟨b, off, rfl, hb, hc i c h⟩⟩
 subst hsv
 have HSS : Hid (∀ c ∈ ss, -9223372036854775808 <= c /\ c <= 9223372036854775807) := hss
 obtain ⟨N, hN⟩ : ∃ N, ss.length = N := ⟨_, rfl⟩
 have HNN : Hid (ss.length = N) := hN
 rw [hN] at hsl ⊢
 clear hr hcs hl hw1 hw2 hsr hss hnd hk HHT HN HW hN
 unfold uaB qzB at HCH
 generalize kNd k a = nd at *
 generalize kNN k a = x at *
 generalize putN know0 (putL cs 15) = now at *
 go_enter Tryz.func10, Tryz.ntmps10
 go_wp2_with (first
  | (go_at_call 14; refine HOP.out.mono ?_; rintro e w1 ⟨gb, rfl, ht⟩; have HT1 : Hid (TSt w gb 1 know0 (newD 4 6) false [] w1) := ht; clear ht HOP)
  | (go_at_call 15; refine (HPT.out gb _ HT1.out).mono ?_; rintro e w2 ⟨po, pn, pc, rfl, HT2⟩; clear HPT HT1)
  | (go_at_call 22; refine (HND.out _).mono ?_; rintro e w3 ⟨rfl, hb3⟩; have HS1 : Hid _ := HCH.out gb w3 (HT2.out.later hb3); clear HND HT2 hb3 HCH)
  | (go_at_call 27; refine (Calls.mono HS1.out) ?_; rintro e w4 ⟨rfl, HS2⟩; clear HS1)
  | (go_at_call 27; refine (Calls.mono HS2.out) ?_; rintro e w5 ⟨rfl, HS3⟩; clear HS2)
  | (go_at_call 27; refine (Calls.mono HS3.out) ?_; rintro e w6 ⟨rfl, HS4⟩; clear HS3)
  | (go_at_call 28; refine (Calls.mono HS4.out) ?_; rintro e w7 ⟨rfl, HS5⟩; clear HS4)
  | (go_at_call 28; refine (Calls.mono HS5.out) ?_; rintro e w8 ⟨rfl, HS6⟩; clear HS5)
  | (go_at_call 29; refine (Calls.mono HS6.out) ?_; rintro e w9 ⟨i1, al1, o1, c1, m1, rfl, HS7⟩; clear HS6)
  | (go_at_call 29; refine (Calls.mono HS7.out) ?_; rintro e w10 ⟨i2, s2, al2, o2, c2, m2, rfl, HS8⟩; clear HS7)
  | (go_at_call 29; refine (Calls.mono HS8.out) ?_; rintro e w11 ⟨i3, s3, al3, o3, c3, m3, rfl, HS9⟩; clear HS8)
  | (go_at_call 20; refine (Calls.mono HS9.out) ?_; rintro e w12 ⟨n, rfl, hn, h1n | ⟨h1n, rfl, rfl, rfl, rfl⟩, g1, g2, g3, g4, g5, HF⟩))
 all_goals
  clear g1 g2 g3 g4 g5 h1n HS9
  have hz1 : w.heap.size <= w9.heap.size := HF.out.1
  have hz2 : w9.heap.size < w10.heap.size := HF.out.2.1
  generalize w9.heap.size = b1 at *
  generalize w10.heap.size = b2 at *
  go_loopw [24] (fun i wr => ∃ j : Nat, j <= N /\ j <= 80 /\ i = .int .i64 j /\ ∃ D i1 s1 a1 v1 i2 s2 a2 v2, AJ x zX D /\ TSt w gb 16 now D false [(b2, stL i2 s2 a2 v2), (b1, stL i1 s1 a1 v1)] wr) (fun i _ => 80 - (intOf i).toNat)
  case atStart =>
   obtain ⟨-, -, D, hJ, hT⟩ := HF.out
   exact ⟨0, Nat.zero_le _, Nat.zero_le _, rfl, D, _, _, _, _, _, _, _, _, hJ, hT⟩
  case round =>
   obtain ⟨j, hjN, hj8, rfl, D, j1, t1, a1, v1, j2, t2, a2, v2, hJ, hT⟩ := hrel
   have HT : Hid (TSt w gb 16 now D false [(b2, stL j2 t2 a2 v2), (b1, stL j1 t1 a1 v1)] wr) := hT
   have HJ : Hid (AJ x zX D) := hJ
   clear hJ hT HF
   by_cases hlt : j < N
   ·by_cases hl8 : j < 80
    ·obtain ⟨c, hc⟩ : ∃ c, ss[j]? = some c := ⟨_, List.getElem?_eq_getElem (by have := HNN.out; omega)⟩
     obtain ⟨sb, off, hsx, hsb, hcell0⟩ := HC.out j c hc
     subst hsx
     have hcell : wr.cell? ⟨sb, off + j, none⟩ = some (.int .i64 c) := (HT.out.below.cell (p := ⟨sb, off + j, none⟩) hsb).trans hcell0
     obtain ⟨hc1, hc2⟩ := HSS.out c (List.mem_of_getElem? hc)
     obtain ⟨p, hp, hpk⟩ := pickM 4 (by decide) (by decide) c hc1 hc2
     have HPK : Hid (∀ w1, Calls Tryz.prog 17 #[.int .i64 c, .int .i64 4] w1 fun e w' => e = .returned (.int .i64 (p : Nat)) /\ w' = w1) := hpk
     have HR1 : Hid _ := HRD.out gb D b1 b2 j1 j2 t1 t2 a1 a2 v1 v2 wr p HJ.out hz1 hz2 HT.out hp
     have hne1 : ¬ b1 = b2 := by omega
     have hne2 : ¬ b2 = b1 := by omega
     clear hc hcell0 hpk HT HJ HRD HC HSS hc1 hc2
     go_wp2_with (first
      | (go_at_call 17; refine (HPK.out _).mono ?_; rintro e w13 ⟨rfl, hw13⟩; subst w13)
      | (go_at_call 28; refine (Calls.mono HR1.out) ?_; rintro e w14 ⟨rfl, HR2⟩; clear HR1)
      | (go_at_call 29; refine (Calls.mono HR2.out) ?_; rintro e w15 ⟨k1, y1, al4, o4, c4, m4, rfl, HB1, HR3⟩; clear HR2; have q0 := row_cell HB1.out (j := 0) rfl; have q1 := row_cell HB1.out (j := 1) rfl; have q2 := row_cell HB1.out (j := 2) rfl; have q3 := row_cell HB1.out (j := 3) rfl; have z0 := row_frozen HB1.out 0; have z1 := row_frozen HB1.out 1; have z2 := row_frozen HB1.out 2; have z3 := row_frozen HB1.out 3)
      | (go_at_call 29; refine (Calls.mono HR3.out) ?_; rintro e w16 ⟨k2, y2, al5, o5, c5, m5, rfl, HB2, r1, hor, HF2⟩; clear HR3 q0 q1 q2 q3 z0 z1 z2 z3; have q0 := row_cell HB2.out (j := 0) rfl; have q1 := row_cell HB2.out (j := 1) rfl; have q2 := row_cell HB2.out (j := 2) rfl; have q3 := row_cell HB2.out (j := 3) rfl; have z0 := row_frozen HB2.out 0; have z1 := row_frozen HB2.out 1; have z2 := row_frozen HB2.out 2; have z3 := row_frozen HB2.out 3; rcases hor with hor | ⟨rfl, rfl, rfl⟩))
     all_goals
      go_roundw
      case rel =>
       obtain ⟨D', hJ', hT'⟩ := HF2.out
       exact ⟨j + 1, by omega, by omega, by go_num, D', _, _, _, _, _, _, _, _, hJ', hT'⟩
      case measure => simp [intOf]; omega
    ·have HB : Hid (Below w.heap.size w wr) := HT.out.below
     clear HT HJ HRD HC HSS
     go_wp2
     go_ret
     exact ⟨rfl, HB.out⟩
   ·have HB : Hid (Below w.heap.size w wr) := HT.out.below
    clear HT HJ HRD HC HSS
    go_wp2
    go_ret
    exact ⟨rfl, HB.out⟩
end Go.Proofs.YtalmoiogbdahcaaGreat
namespace Go.Proofs.YtalmoiogbdahcaaGreat
set_option maxRecDepth 100000
set_option maxHeartbeats 8000000
open Go.ChangeShapes Go.WideShapes Go.ChangeAt Go.RowKit Go.Deep
section
variable {H : Type} {enc : TypeId × Value -> H} {W : World}
theorem ints_open {fuel : Nat} {v : Value} {x : DataW H × List MemPlace} (h : DataW.trod enc Tryz.prog W 0 (fun _ => true) true fuel 25 [v] = some x) :
  ∃ cs, IntsAt W v cs /\ (∀ c ∈ cs, -9223372036854775808 <= c /\ c <= 9223372036854775807) /\ cs.length <= 9223372036854775807 := by
 rcases open_ints Tryz.underlying25 Tryz.underlying3 Tryz.rIntCells h with ⟨hcs, -⟩ | ⟨a, len, cap, zs, hcs, -, hl, hm, hz, -, hcell, hwf⟩
 ·injection hcs with hcs
  exact ⟨[], Or.inl ⟨⟨none, 0, hcs⟩, rfl⟩, fun c hc => absurd hc List.not_mem_nil, Nat.zero_le _⟩
 ·injection hcs with hcs
  subst hcs
  simp only [if_true] at hz
  have hbd : ∀ c ∈ zs, -9223372036854775808 <= c /\ c <= 9223372036854775807 := by
   intro c hc
   have hw := hwf c hc
   simp only [Lit.wf, Bool.and_eq_true, decide_eq_true_eq] at hw
   have m1 : IntKind.i64.min = -9223372036854775808 := by kernel_rfl
   have m2 : IntKind.i64.max = 9223372036854775807 := by kernel_rfl
   exact ⟨m1 ▸ hw.1, m2 ▸ hw.2⟩
  refine ⟨zs.take len, ?_, fun c hc => hbd c (List.mem_of_mem_take hc), ?_⟩
  ·rcases Nat.eq_zero_or_pos len with h0 | h0
   ·subst h0
    exact Or.inl ⟨⟨_, cap, rfl⟩, by simp⟩
   ·obtain ⟨b, off, spot⟩ := a
    have hspot : spot = none := by simpa [Addr.add] using World.cell?_spot (hcell 0 (by omega))
    subst hspot
    have hcell' : ∀ j, j < zs.length -> W.cell? ⟨b, off + j, none⟩ = some (.int .i64 (zs.getD j 0)) := fun j hj => by rw [← add_plain]; exact hcell j hj
    refine Or.inr ⟨b, off, cap, by rw [List.length_take, Nat.min_eq_left (by omega)], cell_lt (hcell' 0 (by omega)), fun i c hc => ?_⟩
    rw [List.getElem?_take] at hc
    split at hc
    ·have hi : i < zs.length := (List.getElem?_eq_some_iff.1 hc).1
     rw [hcell' i hi, List.getD, hc]; rfl
    ·cases hc
  ·rw [List.length_take]
   unfold maxLen at hm
   omega
end
end Go.Proofs.YtalmoiogbdahcaaGreat
