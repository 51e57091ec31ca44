import Derived.Test.YtalmoiogbdahcaaGreatTRowA
import Derived.Test.YtalmoiogbdahcaaGreatTGhG
import Derived.ProofKit
import Derived.SizedLaws
import Derived.Deep.Slices
import Derived.Test.YtalmoiogbdahcaaGreatTKrlA
import Derived.Test.YtalmoiogbdahcaaGreatYRefH
import Derived.Test.YtalmoiogbdahcaaGreatYTieC0
import Derived.Test.YtalmoiogbdahcaaGreatTKepA
import Derived.Test.YtalmoiogbdahcaaGreatYRefE
import Derived.Test.YtalmoiogbdahcaaGreatYLawA
import Derived.Laws.IdiomStrings
import Derived.Test.YtalmoiogbdahcaaGreatTKrlB
import Derived.Test.YtalmoiogbdahcaaGreatTAskA
import Derived.Test.YtalmoiogbdahcaaGreatYSrtB
namespace Go.Proofs.YtalmoiogbdahcaaGreat
set_option maxRecDepth 100000
set_option maxHeartbeats 8000000
open Go.ChangeShapes Go.WideShapes Go.ChangeAt Go.RowKit Go.Deep
theorem Tryz.rIntCells : Tryz.prog.cellsOf 3 = 1 := by kernel_rfl
section
variable {H : Type} {enc : TypeId × Value -> H} {W : World}
instance : Inhabited OpR := ⟨⟨0, 0, 0, 0, ByteArray.empty, .slice none 0 0, []⟩⟩
end
end Go.Proofs.YtalmoiogbdahcaaGreat
namespace Go.Proofs.YtalmoiogbdahcaaGreat
set_option maxRecDepth 100000
set_option maxHeartbeats 8000000
open Go.RowKit
def trustedB : ByteArray := ⟨#[116, 114, 117, 115, 116, 101, 100]⟩
def editorB : ByteArray := ⟨#[101, 100, 105, 116, 111, 114]⟩
def bothB : ByteArray := ⟨#[98, 111, 116, 104]⟩
set_option maxRecDepth 100000
end Go.Proofs.YtalmoiogbdahcaaGreat
namespace Go.Proofs.YtalmoiogbdahcaaGreat
set_option maxRecDepth 100000
set_option maxHeartbeats 8000000
open Go.RowKit
theorem back_one (c : UInt8) (w : World) : (convert 71 9 (.slice (some ⟨w.heap.size, 0, none⟩) 1 1)).run Tryz.prog (w.alloc (.cells #[.int .u8 c.toNat] 5)) = .ok (.string ⟨#[c]⟩) (w.alloc (.cells #[.int .u8 c.toNat] 5)) :=
 run_convert_bytes_back (w.alloc (.cells #[.int .u8 c.toNat] 5)) 71 9 5 ⟨w.heap.size, 0, none⟩ 1 [c] Tryz.underlying71 Tryz.underlying5 Tryz.underlying9 (by
  intro j hj
  match j, hj with
  | 0, _ => simp [Addr.add])
theorem letter_any (n : Nat) (w : World) (hn : n <= 9223372036854775807) :
  Calls Tryz.prog 16 #[.int .i64 (n : Nat)] w fun e w' => e = .returned (.string (letS n)) /\ Below w.heap.size w w' := by
 have hm : n % 4 = 0 \/ n % 4 = 1 \/ n % 4 = 2 \/ n % 4 = 3 := by omega
 have ht : (n : Int).tmod 4 = ((n % 4 : Nat) : Int) := by rw [Int.tmod_eq_emod_of_nonneg (by omega)]; omega
 unfold letS
 rcases hm with h | h | h | h
 ·have hb := back_one 97 w
  rw [h] at ht ⊢
  change (convert 71 9 (.slice (some ⟨w.heap.size, 0, none⟩) 1 1)).run Tryz.prog (w.alloc (.cells #[.int .u8 97] 5)) = _ at hb
  clear h
  go_enter Tryz.func16, Tryz.ntmps16
  go_wp2
  go_ret
  exact ⟨rfl, (Below.refl _ _).alloc (Nat.le_refl _) _⟩
 ·have hb := back_one 98 w
  rw [h] at ht ⊢
  change (convert 71 9 (.slice (some ⟨w.heap.size, 0, none⟩) 1 1)).run Tryz.prog (w.alloc (.cells #[.int .u8 98] 5)) = _ at hb
  clear h
  go_enter Tryz.func16, Tryz.ntmps16
  go_wp2
  go_ret
  exact ⟨rfl, (Below.refl _ _).alloc (Nat.le_refl _) _⟩
 ·have hb := back_one 99 w
  rw [h] at ht ⊢
  change (convert 71 9 (.slice (some ⟨w.heap.size, 0, none⟩) 1 1)).run Tryz.prog (w.alloc (.cells #[.int .u8 99] 5)) = _ at hb
  clear h
  go_enter Tryz.func16, Tryz.ntmps16
  go_wp2
  go_ret
  exact ⟨rfl, (Below.refl _ _).alloc (Nat.le_refl _) _⟩
 ·have hb := back_one 100 w
  rw [h] at ht ⊢
  change (convert 71 9 (.slice (some ⟨w.heap.size, 0, none⟩) 1 1)).run Tryz.prog (w.alloc (.cells #[.int .u8 100] 5)) = _ at hb
  clear h
  go_enter Tryz.func16, Tryz.ntmps16
  go_wp2
  go_ret
  exact ⟨rfl, (Below.refl _ _).alloc (Nat.le_refl _) _⟩
def hasL (l : List ByteArray) (s : ByteArray) : Bool := l.any fun x => x.toList == s.toList
theorem kHas_any (v : Value) (xs : List ByteArray) (s : ByteArray) (w : World) (h : StrsAt w v xs) (hl : xs.length <= maxLen) :
  Calls Tryz.prog 18 #[v, .string s] w fun e w' => e = .returned (.bool (hasL xs s)) /\ w' = w := by
 unfold maxLen at hl
 rcases h with ⟨rfl, rfl⟩ | ⟨b, off, cap, rfl, hc⟩
 ·go_enter Tryz.func18, Tryz.ntmps18
  go_wp2
  refine wp_loop_rounds 1 ?_
  rw [rounds_succ]
  go_wp2
  go_ret
  exact ⟨rfl, rfl⟩
 ·have HX : Hid (∀ x ∈ xs, (x.toList == s.toList) = true -> hasL xs s = true) := fun x hx hq => List.any_eq_true.2 ⟨x, hx, hq⟩
  have HN : Hid ((∀ (j : Nat) (y : ByteArray), j < xs.length -> xs[j]? = some y -> (y.toList == s.toList) = false) -> hasL xs s = false) := by
   intro hno
   unfold hasL
   rw [List.any_eq_false]
   intro x hx
   obtain ⟨j, hj⟩ := List.mem_iff_getElem?.1 hx
   rw [hno j x (List.getElem?_eq_some_iff.1 hj).1 hj]; simp
  go_enter Tryz.func18, Tryz.ntmps18
  go_wp2
  go_loop [5] (fun i => ∃ k : Nat, k <= xs.length /\ i = .int .i64 k /\ ∀ (j : Nat) (y : ByteArray), j < k -> xs[j]? = some y -> (y.toList == s.toList) = false) (fun i => xs.length - (intOf i).toNat)
  case atStart => exact ⟨0, Nat.zero_le _, rfl, fun j y hj => absurd hj (Nat.not_lt_zero j)⟩
  case round =>
   obtain ⟨k, hk, rfl, hh⟩ := hrel
   have HH : Hid (∀ (j : Nat) (y : ByteArray), j < k -> xs[j]? = some y -> (y.toList == s.toList) = false) := hh
   clear hh
   by_cases hlt : k < xs.length
   ·obtain ⟨x, hx⟩ : ∃ x, xs[k]? = some x := ⟨_, List.getElem?_eq_getElem hlt⟩
    have hck := hc k x hx
    clear hc
    by_cases hq : (x.toList == s.toList) = true
    ·have HT : Hid (hasL xs s = true) := HX.out x (List.mem_of_getElem? hx) hq
     clear hx
     go_wp2
     go_ret
     exact ⟨by rw [HT.out]; rfl, rfl⟩
    ·have hq : (x.toList == s.toList) = false := by simpa using hq
     have HH2 : Hid (∀ (j : Nat) (y : ByteArray), j < k + 1 -> xs[j]? = some y -> (y.toList == s.toList) = false) := by
      intro j y hj hy
      rcases Nat.lt_or_ge j k with h | h
      ·exact HH.out j y h hy
      ·obtain rfl : j = k := by omega
       rw [hx] at hy; injection hy with hy; subst hy; exact hq
     clear hx
     go_wp2
     go_round
     case rel => exact ⟨k + 1, by omega, by go_num, HH2.out⟩
     case measure => simp [intOf]; omega
   ·obtain rfl : k = xs.length := by omega
    have HF : Hid (hasL xs s = false) := HN.out HH.out
    clear hc
    go_wp2
    go_ret
    exact ⟨by rw [HF.out]; rfl, rfl⟩
end Go.Proofs.YtalmoiogbdahcaaGreat
namespace Go.Proofs.YtalmoiogbdahcaaGreat
set_option maxRecDepth 100000
set_option maxHeartbeats 8000000
open Go.RowKit
theorem letS_mod (n : Nat) : letS n = letS (n % 4) := by unfold letS; rw [Nat.mod_mod]
theorem kT_mod (k a b : Nat) : kT k a b = kT k (a % 4) (b % 4) := by unfold kT; rw [letS_mod a, letS_mod b]
theorem kT_fault0 : ∀ k, k < 9 -> ∀ a, a < 4 -> ∀ b, b < 4 -> faultS (ruleOfs krules) (⟨#[43]⟩ ++ kT k a b) = 0 /\ (⟨#[43]⟩ ++ kT k a b).size <= 100 := by decide +kernel
theorem kT_fault (k a b : Nat) (hk : k < 9) : faultS (ruleOfs krules) (⟨#[43]⟩ ++ kT k a b) = 0 /\ (⟨#[43]⟩ ++ kT k a b).size <= 100 := by
 rw [kT_mod]; exact kT_fault0 k hk _ (by omega) _ (by omega)
theorem plus_done (now : List ByteArray) (s : ByteArray) : doneS now (⟨#[43]⟩ ++ s) = withL now s true := by
 unfold doneS
 have e1 : (⟨#[43]⟩ ++ s : ByteArray).extract 1 (⟨#[43]⟩ ++ s : ByteArray).size = s := by
  refine ByteArray.ext (Array.ext' ?_)
  simp
  have h1 : ({ data := #[43] } : ByteArray).size = 1 := rfl
  rw [h1, List.take_of_length_le]
  rw [Array.length_toList]
  show s.size <= 1 + s.size - 1
  omega
 have e2 : byteAt (⟨#[43]⟩ ++ s) 0 = 43 := by
  unfold byteAt; simp
 rw [e1, e2]; rfl
end Go.Proofs.YtalmoiogbdahcaaGreat
namespace Go.Proofs.YtalmoiogbdahcaaGreat
set_option maxRecDepth 100000
set_option maxHeartbeats 8000000
open Go.RowKit
theorem KG.write1 {w : World} {B gb : Nat} {g : Pg} {m : List (Value × Value)} {lo : Nat} {xs now : List ByteArray} (h : KG w B gb g m lo xs now) (hv : g.ver <= 999999) {s : ByteArray} (hs : s.size <= 1000) (hf : faultS (ruleOfs xs) s = 0) (hl : (doneS now s).length <= 50) (hso : Sorted (doneS now s)) (bb cap : Nat) (hbb : bb ≠ gb) (hc : w.cell? ⟨bb, 0, none⟩ = some (.string s)) :
  Calls Tryz.prog 24 #[.pointer (some ⟨gb, 0, none⟩), .slice (some ⟨bb, 0, none⟩) 1 cap] w fun e w' => e = .returned (.tuple #[.int .i64 (g.ver + 1), .int .i64 0, .int .i64 0]) /\ w.grownBy w' (some gb) /\ ∃ v, (∀ j, v.ownBlock = some j -> w.heap.size <= j) /\ KG w' B gb { g with tv := v, ver := g.ver + 1 } m lo xs (doneS now s) := by
 have hnb := strT_ne h.tv h.pg (by decide)
 obtain ⟨es, cl, hm1, hm2, hm3, hm4⟩ := h.map
 have hfs : ∀ s, faultG m s = faultS (ruleOfs xs) s := fun s => fault_same h.rmap hm4 h.okx s
 have key := ghWrite_open gb g m (ruleOfs xs) now [s] bb 0 cap w h.pg h.lk h.cl h.rmap.ways h.map hfs h.tv.strs h.sorted h.nl hnb (fun i x hx => by
  match i, hx with
  | 0, hx => simp at hx; rw [← hx, Nat.zero_add]; exact hc) hbb (by simp) (fun x hx => by simp at hx; rw [hx]; omega) ⟨h.ver0, by have := h.verV; omega⟩
 refine key.mono ?_
 intro e w' hp
 have e1 : batchL (ruleOfs xs) now 0 [s] = .inr (doneS now s) := by rw [batchL, if_pos hf, batchL]
 rw [e1] at hp
 obtain ⟨hk, hp⟩ := hp
 dsimp only at hp
 rw [if_neg (by omega)] at hp
 obtain ⟨v, rfl, hpg, hown⟩ := hp
 have sk : SK (onlyB gb) w w' := SK.gate hk (cs := g.cells) h.pg (by decide) rfl
 refine ⟨rfl, hk, v, fun j hj => (owns_lt hown j hj).2.1, hpg, sk.mapAt h.map, sk.rmap h.rmap, h.okx, h.few, owns_strT hown, hso, hl, ?_, h.lk, h.cl, by show 0 <= g.ver + 1; have := h.ver0; omega, by show g.ver + 1 <= 1000000; omega, h.gB⟩
 exact batch_good _ _ _ _ _ h.tup e1
theorem kept_then {w wr w2 w3 : World} {gb : Nat} (h : w.grownBy wr (some gb)) (hb : Below wr.heap.size wr w2) (hk : w2.grownBy w3 (some gb)) : w.grownBy w3 (some gb) :=
 ⟨hk.os.trans (hb.os.trans h.os), hk.tape.trans (hb.tape.trans h.tape), hk.output.trans (hb.output.trans h.output), Nat.le_trans h.size (Nat.le_trans hb.size hk.size), fun k hkl hne => by
  have h1 := h.block k hkl hne
  have h2 := hb.block k (Nat.lt_of_lt_of_le hkl h.size)
  have h3 := hk.block k (Nat.lt_of_lt_of_le hkl (Nat.le_trans h.size hb.size)) hne
  rw [h3, h2, h1]⟩
theorem kept_row {w w3 w4 : World} {gb : Nat} {lv : Value} {n : Nat} {us : List Value} (h : w.grownBy w3 (some gb)) (hg : w3.grownBy w4 lv.ownBlock) (hrow : w3.ownsRow w.heap.size 9 1 lv n us) : w.grownBy w4 (some gb) :=
 ⟨hg.os.trans h.os, hg.tape.trans h.tape, hg.output.trans h.output, Nat.le_trans h.size hg.size, fun k hkl hne => by
  have h1 := h.block k hkl hne
  have h2 := hg.block k (Nat.lt_of_lt_of_le hkl h.size) (fun e => by have := (owns_lt hrow k e.symm).2.1; omega)
  rw [h2, h1]⟩
theorem kg_grown {w3 w4 : World} {B gb : Nat} {g : Pg} {m : List (Value × Value)} {lo base n : Nat} {us : List Value} {xs now : List ByteArray} {lv : Value} (h : KG w3 B gb g m lo xs now) (hg : w3.grownBy w4 lv.ownBlock) (hrow : w3.ownsRow base 9 1 lv n us) (hne : ∀ j, lv.ownBlock = some j -> g.tv.ownBlock ≠ some j) : KG w4 B gb g m lo xs now := by
 have hblk : ∀ (k : Nat) (o : Obj), w3.heap[k]? = some o -> (∀ cur : Array Value, o ≠ .cells cur 9 (0, 0)) -> w4.heap[k]? = w3.heap[k]? := by
  intro k o hk ho
  refine hg.block k (row_lt hk) fun e => ?_
  obtain ⟨-, -, cur, hc⟩ := owns_lt hrow k e.symm
  rw [hk] at hc
  injection hc with hc
  exact ho cur hc
 refine { h with pg := ?_, map := ?_, rmap := ?_, tv := ?_ }
 ·exact (hblk _ _ h.pg (by intro cur e; injection e with _ e; revert e; decide)).trans h.pg
 ·obtain ⟨es, cl, h1, -⟩ := h.map
  exact h.map.move (hblk _ _ h1 (by intro cur e; cases e))
 ·exact h.rmap.move fun k cur _ hc => hblk k _ hc (by intro cur' e; injection e with _ e; revert e; decide)
 ·rcases h.tv with e | ⟨b, cap, cur, h1, h2, h3⟩
  ·exact Or.inl e
  ·refine Or.inr ⟨b, cap, cur, h1, ?_, h3⟩
   rw [hg.block b (row_lt h2) ?_]
   ·exact h2
   ·intro e
    exact hne b e.symm (by rw [h1]; rfl)
end Go.Proofs.YtalmoiogbdahcaaGreat
namespace Go.Proofs.YtalmoiogbdahcaaGreat
set_option maxRecDepth 100000
set_option maxHeartbeats 8000000
open Go.RowKit Go.Shelf
def ExpandP (xs now : List ByteArray) (s : ByteArray) (w : World) (e : Ending) (w' : World) : Prop :=
 ∃ o n c, ∃ er : Int, e = .returned (.tuple #[.slice o n c, .int .i64 er]) /\ Below w.heap.size w w' /\ er = (if queOk s = false \/ queC s = true then 4 else if hasR xs (queX s) = false then 5 else 0) /\ ∃ zs : List ByteArray, n = zs.length /\ Sorted zs /\ zs.length <= 50 /\ w'.ownsRow w.heap.size 9 1 (.slice o n c) zs.length (strV zs) /\ if er = 0 then (∀ z, z ∈ zs ↔ ∃ u, InN (tsOf now) xs u (queX s) /\ thT u = z) else o = none /\ n = 0 /\ c = 0
theorem expand_any (HN : Hid NodeC) (HW : Hid TWayC) {U xs now : List ByteArray} {b : Nat} {g : Pg} {w : World} (h : GateQ U xs now b g w) (s : ByteArray) (hs : s.size <= maxLen) (hQ : queOk s = true -> hasR xs (queX s) = true -> QueOk U s) (hO : okNd (queX s)) :
  Calls Tryz.prog 40 #[.pointer (some ⟨b, 0, none⟩), .string s] w (ExpandP xs now s w) := by
 have hrq := readQuestion_any s w hs
 have HNO : Hid (∀ er : Int, er ≠ 0 -> er = (if queOk s = false \/ queC s = true then 4 else if hasR xs (queX s) = false then 5 else 0) -> ∀ w', Below w.heap.size w w' -> ExpandP xs now s w (.returned (.tuple #[.slice none 0 0, .int .i64 er])) w') := by
  intro er he0 he w' hb
  exact ⟨none, 0, 0, er, rfl, hb, he, [], rfl, List.Pairwise.nil, by simp, World.ownsRow_nil _ _ _ _, by rw [if_neg he0]; exact ⟨rfl, rfl, rfl⟩⟩
 cases hok : queOk s
 ·rw [hok, queVal_no hok] at hrq
  have H4 : Hid (∀ w', Below w.heap.size w w' -> ExpandP xs now s w (.returned (.tuple #[.slice none 0 0, .int .i64 4])) w') := HNO.out 4 (by decide) (by rw [hok]; rfl)
  generalize ExpandP xs now s w = P at *
  clear h hs hQ hO hok HNO HN HW
  go_enter Tryz.func40, Tryz.ntmps40
  go_wp2_with (go_at_call 45; refine hrq.mono ?_; rintro e w1 ⟨rfl, hb1⟩)
  exact H4.out _ (hb1.alloc hb1.size _)
 ·rw [hok, queVal_yes hok] at hrq
  have HIC : Hid (∀ w1, Calls Tryz.prog 46 #[.agg #[.string (queX s).k, .string (queX s).n, .string (queX s).r, .string (queY s).k, .string (queY s).n, .string (queY s).r]] w1 fun e w' => e = .returned (.bool (queC s)) /\ Below w1.heap.size w1 w') := fun w1 => isCheck_any _ _ _ _ _ _ w1
  cases hc : queC s
  ·rw [hc] at HIC
   have HRU : Hid (∀ w1, Below w.heap.size w w1 -> Calls Tryz.prog 47 #[.pointer (some ⟨b, 0, none⟩), .agg #[.string (queX s).k, .string (queX s).n, .string (queX s).r]] w1 fun e w' => e = .returned (.bool (hasR xs (queX s))) /\ Below w1.heap.size w1 w') := fun w1 hb => hasR_any (h.to hb.block) hO
   cases hr : hasR xs (queX s)
   ·rw [hr] at HRU
    have H5 : Hid (∀ w', Below w.heap.size w w' -> ExpandP xs now s w (.returned (.tuple #[.slice none 0 0, .int .i64 5])) w') := HNO.out 5 (by decide) (by rw [hok, hc, hr]; rfl)
    generalize ExpandP xs now s w = P at *
    generalize queX s = x at *
    generalize queY s = y at *
    clear h hs hQ hO hok HNO HN HW hc hr
    go_enter Tryz.func40, Tryz.ntmps40
    go_wp2_with (first | (go_at_call 45; refine hrq.mono ?_; rintro e w1 ⟨rfl, hb1⟩) | (go_at_call 46; refine (HIC.out _).mono ?_; rintro e w2 ⟨rfl, hb2⟩; have hbB : Below w.heap.size w w2 := (hb1.alloc hb1.size _).trans (hb2.mono (by have := hb1.size; simp; omega)); have k0 := hb2.cell (p := ⟨w1.heap.size, 0, none⟩) (by simp); have k1 := hb2.cell (p := ⟨w1.heap.size, 1, none⟩) (by simp); have k2 := hb2.cell (p := ⟨w1.heap.size, 2, none⟩) (by simp)) | (go_at_call 47; refine (HRU.out _ hbB).mono ?_; rintro e w3 ⟨rfl, hb3⟩))
    exact H5.out _ (hbB.trans (hb3.mono hbB.size))
   ·rw [hr] at HRU
    have q := hQ hok hr
    have HAQ : Hid (∀ (wq : World) (qb : Nat), Below w.heap.size w wq -> wq.heap[qb]? = some (.cells (queL (queX s) (queY s)).toArray 77 (0, 0)) -> Calls Tryz.prog 42 #[.pointer (some ⟨b, 0, none⟩)] wq fun e w1 => ∃ tb, e = .returned (.pointer (some ⟨tb, 0, none⟩)) /\ w1.heap[qb]? = some (.cells (queL (queX s) (queY s)).toArray 77 (0, 0)) /\ Hid (∀ w1', Below w1.heap.size w1 w1' -> Calls Tryz.prog 43 #[.pointer (some ⟨tb, 0, none⟩), .agg #[.string (queX s).k, .string (queX s).n, .string (queX s).r]] w1' fun e w2 => ∃ wb, e = .returned (.pointer (some ⟨wb, 0, none⟩)) /\ Hid (∀ w2', Below w2.heap.size w2 w2' -> Calls Tryz.prog 83 #[.pointer (some ⟨wb, 0, none⟩)] w2' fun e w' => ∃ o n c, e = .returned (.slice o n c) /\ ExpandP xs now s w (.returned (.tuple #[.slice o n c, .int .i64 0])) w'))) := by
     intro wq qb hb hq
     refine (ask_q HN HW (h.to hb.block) q.ok q.th q.rU hq).mono ?_
     rintro e w1 ⟨tb, he, hq1, HC⟩
     refine ⟨tb, he, hq1, ?_⟩
     intro w1' hb1
     refine (HC.out w1' hb1).mono ?_
     rintro e w2 ⟨wb, he2, hq2, hA⟩
     refine ⟨wb, he2, ?_⟩
     intro w2' hb2
     refine (hA.out.who w2' hb2).mono ?_
     rintro e w' ⟨zs, o, c, he3, hso, hm, hzl, hrow, hbw⟩
     exact ⟨o, _, c, he3, o, _, c, 0, rfl, hb.trans (hbw.mono hb.size), by rw [hok, hc, hr]; rfl, zs, rfl, hso, hzl, owns_base hrow hb.size, by rw [if_pos rfl]; exact hm⟩
    generalize ExpandP xs now s w = P at *
    clear q hQ hO
    generalize queX s = x at *
    generalize queY s = y at *
    clear h hs hok HNO HN HW hc hr
    go_enter Tryz.func40, Tryz.ntmps40
    go_wp2_with (first | (go_at_call 45; refine hrq.mono ?_; rintro e w1 ⟨rfl, hb1⟩) | (go_at_call 46; refine (HIC.out _).mono ?_; rintro e w2 ⟨rfl, hb2⟩; have hbB : Below w.heap.size w w2 := (hb1.alloc hb1.size _).trans (hb2.mono (by have := hb1.size; simp; omega)); have k0 := hb2.cell (p := ⟨w1.heap.size, 0, none⟩) (by simp); have k1 := hb2.cell (p := ⟨w1.heap.size, 1, none⟩) (by simp); have k2 := hb2.cell (p := ⟨w1.heap.size, 2, none⟩) (by simp); have hq2 : w2.heap[w1.heap.size]? = some (.cells (queL x y).toArray 77 (0, 0)) := (hb2.block _ (by simp)).trans (alloc_new w1 (queL x y) _)) | (go_at_call 47; refine (HRU.out _ hbB).mono ?_; rintro e w3 ⟨rfl, hb3⟩))
    have hbC : Below w.heap.size w w3 := hbB.trans (hb3.mono hbB.size)
    have hq3 : w3.heap[w1.heap.size]? = some (.cells (queL x y).toArray 77 (0, 0)) := (hb3.block _ (row_lt hq2)).trans hq2
    have HNW : Hid _ := HAQ.out w3.drew w1.heap.size hbC.drew hq3
    have l0 : w3.drew.cell? ⟨w1.heap.size, 0, none⟩ = some (.string x.k) := row_cell hq3 (j := 0) rfl
    have l1 : w3.drew.cell? ⟨w1.heap.size, 1, none⟩ = some (.string x.n) := row_cell hq3 (j := 1) rfl
    have l2 : w3.drew.cell? ⟨w1.heap.size, 2, none⟩ = some (.string x.r) := row_cell hq3 (j := 2) rfl
    clear HAQ hq3 hq2 hbC hbB hb3 hb2 hb1 HIC HRU k0 k1 k2
    go_region_with (first | (go_at_call 42; refine (Calls.mono HNW.out) ?_; rintro e w4 ⟨tb, rfl, hq4, HWK⟩; have m0 := row_cell hq4 (j := 0) rfl; have m1 := row_cell hq4 (j := 1) rfl; have m2 := row_cell hq4 (j := 2) rfl; clear hq4) | (go_at_call 43; refine (HWK.out _ (by repeat (first | exact Below.refl _ _ | refine Below.setCell ?_ (by first | exact Nat.le_refl _ | (simp; done) | (simp; omega)) _ | refine below_drewN ?_ _ | refine Below.drew ?_ | refine Below.alloc ?_ (by first | exact Nat.le_refl _ | (simp; done) | (simp; omega)) _))).mono ?_; rintro e w5 ⟨wb, rfl, HWH⟩) | (go_at_call 83; refine (HWH.out _ (by repeat (first | exact Below.refl _ _ | refine Below.setCell ?_ (by first | exact Nat.le_refl _ | (simp; done) | (simp; omega)) _ | refine below_drewN ?_ _ | refine Below.drew ?_ | refine Below.alloc ?_ (by first | exact Nat.le_refl _ | (simp; done) | (simp; omega)) _))).mono ?_; rintro e w6 ⟨o, n, c, rfl, hp⟩))
    all_goals go_wp2
    all_goals exact bodyPost_ret (v := .tuple #[.slice o n c, .int .i64 0]) (by simp [results, Tryz.results40, go_sem]) rfl hp
  ·rw [hc] at HIC
   have H4 : Hid (∀ w', Below w.heap.size w w' -> ExpandP xs now s w (.returned (.tuple #[.slice none 0 0, .int .i64 4])) w') := HNO.out 4 (by decide) (by rw [hc]; simp)
   generalize ExpandP xs now s w = P at *
   generalize queX s = x at *
   generalize queY s = y at *
   clear h hs hQ hO hok HNO HN HW hc
   go_enter Tryz.func40, Tryz.ntmps40
   go_wp2_with (first | (go_at_call 45; refine hrq.mono ?_; rintro e w1 ⟨rfl, hb1⟩) | (go_at_call 46; refine (HIC.out _).mono ?_; rintro e w2 ⟨rfl, hb2⟩; have hbB : Below w.heap.size w w2 := (hb1.alloc hb1.size _).trans (hb2.mono (by have := hb1.size; simp; omega))))
   exact H4.out _ hbB
theorem gateRead_any {U xs now : List ByteArray} {b : Nat} {g : Pg} {w : World} (h : GateQ U xs now b g w) (s : ByteArray) (hs : s.size <= maxLen) (hO : okNd (queX s)) :
  Calls Tryz.prog 41 #[.pointer (some ⟨b, 0, none⟩), .string s] w fun e w' => e = .returned (.tuple #[askV xs s, .int .i64 (askE xs s)]) /\ Below w.heap.size w w' := by
 have hrq := fun w1 => readQuestion_any s w1 hs
 cases hok : queOk s
 ·rw [hok, queVal_no hok] at hrq
  have HV : Hid (askV xs s = zeroQ /\ askE xs s = 4) := by
   have e : askE xs s = 4 := if_pos hok
   refine ⟨?_, e⟩
   unfold askV; rw [e]; exact if_neg (by decide)
  obtain ⟨v1, v2⟩ := HV.out
  rw [v1, v2]
  unfold zeroQ
  clear h hs hO hok HV v1 v2
  go_enter Tryz.func41, Tryz.ntmps41
  go_wp2_with (go_at_call 45; refine (hrq _).mono ?_; rintro e w1 ⟨rfl, hb1⟩; have hz1 : w.heap.size < w1.heap.size := (by have := hb1.size; simp at this; omega); have hc0 := fun o => hb1.cell (p := ⟨w.heap.size, o, none⟩) (by simp); have hf0 := fun o => hb1.frozen (p := ⟨w.heap.size, o, none⟩) (by simp); have hn0 : ¬ w.heap.size = w1.heap.size := (by omega); have hn1 : ¬ w1.heap.size = w.heap.size := (by omega))
  have hB1 : Below w.heap.size w w1 := ((Below.refl w.heap.size w).alloc (Nat.le_refl _) _).trans (hb1.mono (by simp))
  refine bodyPost_ret (v := .tuple #[.agg #[.string noneB, .string noneB, .string noneB, .string noneB, .string noneB, .string noneB], .int .i64 4]) (by simp [results, Tryz.results41, go_sem, hc0, hz1, noneB]) rfl ⟨rfl, ?_⟩
  refine Below.alloc ?_ (by simp; omega) _
  refine Below.setCell ?_ (by simp) _
  refine Below.setCell ?_ (by simp) _
  refine Below.setCell ?_ (by simp) _
  refine Below.setCell ?_ (by simp) _
  refine Below.setCell ?_ (by simp) _
  refine Below.setCell ?_ (by simp) _
  exact hB1
 ·rw [hok, queVal_yes hok] at hrq
  have HRU : Hid (∀ w1, Below w.heap.size w w1 -> Calls Tryz.prog 47 #[.pointer (some ⟨b, 0, none⟩), .agg #[.string (queX s).k, .string (queX s).n, .string (queX s).r]] w1 fun e w' => e = .returned (.bool (hasR xs (queX s))) /\ Below w1.heap.size w1 w') := fun w1 hb => hasR_any (h.to hb.block) hO
  cases hr : hasR xs (queX s)
  ·rw [hr] at HRU
   have HV : Hid (askV xs s = zeroQ /\ askE xs s = 5) := by
    have e : askE xs s = 5 := by unfold askE; rw [hok, hr]; rfl
    refine ⟨?_, e⟩
    unfold askV; rw [e]; exact if_neg (by decide)
   obtain ⟨v1, v2⟩ := HV.out
   rw [v1, v2]
   unfold zeroQ
   generalize queX s = x at *
   generalize queY s = y at *
   clear h hs hO hok HV v1 v2 hr
   go_enter Tryz.func41, Tryz.ntmps41
   go_wp2_with (first | (go_at_call 45; refine (hrq _).mono ?_; rintro e w1 ⟨rfl, hb1⟩; have hz1 : w.heap.size < w1.heap.size := (by have := hb1.size; simp at this; omega); have hn0 : ¬ w.heap.size = w1.heap.size := (by omega); have hn1 : ¬ w1.heap.size = w.heap.size := (by omega); have hB1 : Below w.heap.size w w1 := ((Below.refl w.heap.size w).alloc (Nat.le_refl _) _).trans (hb1.mono (by simp))) | (go_at_call 47; refine (HRU.out _ (hB1.alloc hB1.size _)).mono ?_; rintro e w2 ⟨rfl, hb2⟩; have hz2 : w.heap.size < w2.heap.size := (by have := hb2.size; simp at this; omega); have hb12 : Below (w.heap.size + 1) _ w2 := ((hb1.mono (by simp)).trans ((((Below.refl (w.heap.size + 1) w1).alloc (by omega) _).trans (hb2.mono (by simp; omega))))); have hc0 := fun o => hb12.cell (p := ⟨w.heap.size, o, none⟩) (by simp); have hf0 := fun o => hb12.frozen (p := ⟨w.heap.size, o, none⟩) (by simp)))
   have hB2 : Below w.heap.size w w2 := (hB1.alloc hB1.size _).trans (hb2.mono (by simp; omega))
   refine bodyPost_ret (v := .tuple #[.agg #[.string noneB, .string noneB, .string noneB, .string noneB, .string noneB, .string noneB], .int .i64 5]) (by simp [results, Tryz.results41, go_sem, hc0, noneB]) rfl ⟨rfl, ?_⟩
   refine Below.setCell ?_ (by simp) _
   refine Below.setCell ?_ (by simp) _
   refine Below.setCell ?_ (by simp) _
   refine Below.setCell ?_ (by simp) _
   refine Below.setCell ?_ (by simp) _
   refine Below.setCell ?_ (by simp) _
   exact hB2
  ·rw [hr] at HRU
   have HV : Hid (askV xs s = .agg #[.string (queX s).k, .string (queX s).n, .string (queX s).r, .string (queY s).k, .string (queY s).n, .string (queY s).r] /\ askE xs s = 0) := by
    have e : askE xs s = 0 := by unfold askE; rw [hok, hr]; rfl
    refine ⟨?_, e⟩
    unfold askV; rw [e]; exact if_pos rfl
   obtain ⟨v1, v2⟩ := HV.out
   rw [v1, v2]
   clear HV v1 v2 hO
   generalize queX s = x at *
   generalize queY s = y at *
   clear h hs hok hr
   go_enter Tryz.func41, Tryz.ntmps41
   go_wp2_with (first | (go_at_call 45; refine (hrq _).mono ?_; rintro e w1 ⟨rfl, hb1⟩; have hz1 : w.heap.size < w1.heap.size := (by have := hb1.size; simp at this; omega); have hn0 : ¬ w.heap.size = w1.heap.size := (by omega); have hn1 : ¬ w1.heap.size = w.heap.size := (by omega); have hB1 : Below w.heap.size w w1 := ((Below.refl w.heap.size w).alloc (Nat.le_refl _) _).trans (hb1.mono (by simp))) | (go_at_call 47; refine (HRU.out _ (hB1.alloc hB1.size _)).mono ?_; rintro e w2 ⟨rfl, hb2⟩; have hz2 : w.heap.size < w2.heap.size := (by have := hb2.size; simp at this; omega); have hb12 : Below (w.heap.size + 1) _ w2 := ((hb1.mono (by simp)).trans ((((Below.refl (w.heap.size + 1) w1).alloc (by omega) _).trans (hb2.mono (by simp; omega))))); have hc0 := fun o => hb12.cell (p := ⟨w.heap.size, o, none⟩) (by simp); have hf0 := fun o => hb12.frozen (p := ⟨w.heap.size, o, none⟩) (by simp); have hc1 := fun o => hb2.cell (p := ⟨w1.heap.size, o, none⟩) (by simp)))
   have hB2 : Below w.heap.size w w2 := (hB1.alloc hB1.size _).trans (hb2.mono (by simp; omega))
   refine bodyPost_ret (v := .tuple #[.agg #[.string x.k, .string x.n, .string x.r, .string y.k, .string y.n, .string y.r], .int .i64 0]) (by simp [results, Tryz.results41, go_sem, hc0]) rfl ⟨rfl, ?_⟩
   refine Below.setCell ?_ (by simp) _
   refine Below.setCell ?_ (by simp) _
   refine Below.setCell ?_ (by simp) _
   refine Below.setCell ?_ (by simp) _
   refine Below.setCell ?_ (by simp) _
   refine Below.setCell ?_ (by simp) _
   exact hB2
def CostP (xs now : List ByteArray) (s : ByteArray) (w : World) (e : Ending) (w' : World) : Prop :=
 ∃ k : Nat, e = .returned (.tuple #[.int .i64 k, .int .i64 (askE xs s)]) /\ Below w.heap.size w w' /\ if askE xs s = 0 then ∃ met : List Nod, k = met.length /\ met.Nodup /\ (∀ y, y ∈ met ↔ Rch (tsOf now) (ruleN xs) (queX s) y) /\ met.length <= 32000000 else k = 0
theorem cost_any (HN : Hid NodeC) (HW : Hid TWayC) {U xs now : List ByteArray} {b : Nat} {g : Pg} {w : World} (h : GateQ U xs now b g w) (s : ByteArray) (hs : s.size <= maxLen) (hQ : queOk s = true -> hasR xs (queX s) = true -> QueOk U s) (hO : okNd (queX s)) :
  Calls Tryz.prog 20 #[.pointer (some ⟨b, 0, none⟩), .string s] w (CostP xs now s w) := by
 have hrd := gateRead_any h s hs hO
 by_cases he : askE xs s = 0
 ·have hok : queOk s = true := by
   cases e : queOk s
   ·have : askE xs s = 4 := if_pos e
    rw [he] at this; cases this
   ·rfl
  have hr : hasR xs (queX s) = true := by
   cases e : hasR xs (queX s)
   ·have : askE xs s = 5 := by unfold askE; rw [hok, e]; rfl
    rw [he] at this; cases this
   ·rfl
  have hv : askV xs s = .agg #[.string (queX s).k, .string (queX s).n, .string (queX s).r, .string (queY s).k, .string (queY s).n, .string (queY s).r] := if_pos he
  rw [hv, he] at hrd
  have q := hQ hok hr
  have HAQ : Hid (∀ (wq : World) (qb : Nat), Below w.heap.size w wq -> wq.heap[qb]? = some (.cells (queL (queX s) (queY s)).toArray 77 (0, 0)) -> Calls Tryz.prog 42 #[.pointer (some ⟨b, 0, none⟩)] wq fun e w1 => ∃ tb, e = .returned (.pointer (some ⟨tb, 0, none⟩)) /\ w1.heap[qb]? = some (.cells (queL (queX s) (queY s)).toArray 77 (0, 0)) /\ Hid (∀ w1', Below w1.heap.size w1 w1' -> Calls Tryz.prog 43 #[.pointer (some ⟨tb, 0, none⟩), .agg #[.string (queX s).k, .string (queX s).n, .string (queX s).r]] w1' fun e w2 => ∃ wb, e = .returned (.pointer (some ⟨wb, 0, none⟩)) /\ Hid (∀ w2', Below w2.heap.size w2 w2' -> Calls Tryz.prog 44 #[.pointer (some ⟨wb, 0, none⟩)] w2' fun e w' => ∃ k : Nat, e = .returned (.int .i64 k) /\ CostP xs now s w (.returned (.tuple #[.int .i64 k, .int .i64 0])) w'))) := by
   intro wq qb hb hq
   refine (ask_q HN HW (h.to hb.block) q.ok q.th q.rU hq).mono ?_
   rintro e w1 ⟨tb, he1, hq1, HC⟩
   refine ⟨tb, he1, hq1, ?_⟩
   intro w1' hb1
   refine (HC.out w1' hb1).mono ?_
   rintro e w2 ⟨wb, he2, hq2, hA⟩
   refine ⟨wb, he2, ?_⟩
   intro w2' hb2
   refine (hA.out.cost w2' hb2).mono ?_
   rintro e w' ⟨met, he3, hnd, hm, hml, hbw⟩
   exact ⟨met.length, he3, met.length, by rw [he], hb.trans (hbw.mono hb.size), by rw [if_pos he]; exact ⟨met, rfl, hnd, hm, hml⟩⟩
  generalize CostP xs now s w = P at *
  clear q hQ hO hv
  generalize queX s = x at *
  generalize queY s = y at *
  clear h hs hok HN HW hr he
  go_enter Tryz.func20, Tryz.ntmps20
  go_wp2_with (go_at_call 41; refine hrd.mono ?_; rintro e w1 ⟨rfl, hb1⟩)
  have hb3 : Below w.heap.size w (w1.alloc (.cells #[.string x.k, .string x.n, .string x.r, .string y.k, .string y.n, .string y.r] 77)) := hb1.alloc hb1.size _
  have hq3 : (w1.alloc (.cells #[.string x.k, .string x.n, .string x.r, .string y.k, .string y.n, .string y.r] 77)).heap[w1.heap.size]? = some (.cells (queL x y).toArray 77 (0, 0)) := alloc_new w1 (queL x y) _
  obtain ⟨w3, hw3⟩ : ∃ w3, w1.alloc (.cells #[.string x.k, .string x.n, .string x.r, .string y.k, .string y.n, .string y.r] 77) = w3 := ⟨_, rfl⟩
  rw [hw3] at hb3 hq3 ⊢
  have HNW : Hid _ := HAQ.out w3.drew w1.heap.size hb3.drew hq3
  have l0 : w3.drew.cell? ⟨w1.heap.size, 0, none⟩ = some (.string x.k) := row_cell hq3 (j := 0) rfl
  have l1 : w3.drew.cell? ⟨w1.heap.size, 1, none⟩ = some (.string x.n) := row_cell hq3 (j := 1) rfl
  have l2 : w3.drew.cell? ⟨w1.heap.size, 2, none⟩ = some (.string x.r) := row_cell hq3 (j := 2) rfl
  clear HAQ hq3 hb3 hb1 hrd hw3
  go_region_with (first | (go_at_call 42; refine (Calls.mono HNW.out) ?_; rintro e w4 ⟨tb, rfl, hq4, HWK⟩; have m0 := row_cell hq4 (j := 0) rfl; have m1 := row_cell hq4 (j := 1) rfl; have m2 := row_cell hq4 (j := 2) rfl; clear hq4) | (go_at_call 43; refine (HWK.out _ (by repeat (first | exact Below.refl _ _ | refine Below.setCell ?_ (by first | exact Nat.le_refl _ | (simp; done) | (simp; omega)) _ | refine below_drewN ?_ _ | refine Below.drew ?_ | refine Below.alloc ?_ (by first | exact Nat.le_refl _ | (simp; done) | (simp; omega)) _))).mono ?_; rintro e w5 ⟨wb, rfl, HWH⟩) | (go_at_call 44; refine (HWH.out _ (by repeat (first | exact Below.refl _ _ | refine Below.setCell ?_ (by first | exact Nat.le_refl _ | (simp; done) | (simp; omega)) _ | refine below_drewN ?_ _ | refine Below.drew ?_ | refine Below.alloc ?_ (by first | exact Nat.le_refl _ | (simp; done) | (simp; omega)) _))).mono ?_; rintro e w6 ⟨k, rfl, hp⟩))
  all_goals go_wp2
  all_goals exact bodyPost_ret (v := .tuple #[.int .i64 k, .int .i64 0]) (by simp [results, Tryz.results20, go_sem]) rfl hp
 ·have hv : askV xs s = zeroQ := if_neg he
  rw [hv] at hrd
  unfold zeroQ at hrd
  have hne : (askE xs s != 0) = true := by simpa using he
  have HP : Hid (∀ w', Below w.heap.size w w' -> CostP xs now s w (.returned (.tuple #[.int .i64 0, .int .i64 (askE xs s)])) w') := fun w' hb => ⟨0, rfl, hb, by rw [if_neg he]⟩
  generalize CostP xs now s w = P at *
  generalize askE xs s = er at *
  clear h hs hQ hO HN HW hv he
  go_enter Tryz.func20, Tryz.ntmps20
  go_wp2_with (go_at_call 41; refine hrd.mono ?_; rintro e w1 ⟨rfl, hb1⟩)
  exact HP.out _ (hb1.alloc hb1.size _)
theorem sorted_nodup {l : List ByteArray} (h : Sorted l) : l.Nodup := List.Pairwise.imp (fun h e => by subst e; rw [ltB_irrefl] at h; cases h) h
theorem mem_with {l : List ByteArray} (hs : Sorted l) (x s : ByteArray) : s ∈ withL l x true ↔ s ∈ l \/ s = x := by
 obtain ⟨i, hp⟩ := place_ex hs x
 rw [with_place hs hp]
 split
 ·rename_i e
  rw [if_pos rfl]
  constructor
  ·exact Or.inl
  ·rintro (h | h)
   ·exact h
   ·rw [h]; exact List.mem_of_getElem? e
 ·rw [if_pos rfl]
  unfold insL
  constructor
  ·intro h
   rcases List.mem_append.1 h with h | h
   ·exact Or.inl (List.mem_of_mem_take h)
   ·rcases List.mem_cons.1 h with h | h
    ·exact Or.inr h
    ·exact Or.inl (List.mem_of_mem_drop h)
  ·rintro (h | h)
   ·rw [← List.take_append_drop i l] at h
    rcases List.mem_append.1 h with h | h
    ·exact List.mem_append_left _ h
    ·exact List.mem_append_right _ (List.mem_cons_of_mem _ h)
   ·rw [h]; exact List.mem_append_right _ (List.mem_cons_self ..)
end Go.Proofs.YtalmoiogbdahcaaGreat
