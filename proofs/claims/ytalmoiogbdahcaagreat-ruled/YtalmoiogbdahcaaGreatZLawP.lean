import Derived.Test.YtalmoiogbdahcaaGreatZSetA
import Derived.Test.YtalmoiogbdahcaaGreatYGhG
namespace Go.Proofs.YtalmoiogbdahcaaGreat
set_option maxRecDepth 100000
set_option maxHeartbeats 8000000
open Go.RowKit
theorem with_mem (s : ByteArray) : ∀ (xs : List ByteArray) (q : Bool × List ByteArray) (y : ByteArray), y ∈ (xs.foldl (withStep s) q).2 -> y ∈ q.2 \/ y ∈ xs \/ y = s := by
 intro xs
 induction xs with
 | nil => intro q y h; exact Or.inl h
 | cons x xs ih =>
  intro q y h
  rw [List.foldl_cons] at h
  rcases ih _ _ h with h | h | h
  ·unfold withStep at h
   dsimp only at h
   rcases List.mem_append.1 h with h | h
   ·split at h
    ·rcases List.mem_append.1 h with h | h
     ·exact Or.inl h
     ·exact Or.inr (Or.inr (List.mem_singleton.1 h))
    ·exact Or.inl h
   ·split at h
    ·exact Or.inr (Or.inl (by rw [List.mem_singleton.1 h]; exact List.mem_cons_self ..))
    ·cases h
  ·exact Or.inr (Or.inl (List.mem_cons_of_mem _ h))
  ·exact Or.inr (Or.inr h)
theorem withL_mem {xs : List ByteArray} {s : ByteArray} {b : Bool} {y : ByteArray} (h : y ∈ withL xs s b) : y ∈ xs \/ y = s := by
 unfold withL at h
 rcases List.mem_append.1 h with h | h
 ·rcases with_mem s xs _ y h with h | h | h
  ·cases h
  ·exact Or.inl h
  ·exact Or.inr h
 ·split at h
  ·exact Or.inr (List.mem_singleton.1 h)
  ·cases h
theorem faultS_good {rs : List (ByteArray × ByteArray)} {s : ByteArray} (h : faultS rs s = 0) : goodT rs (s.extract 1 s.size) := by
 unfold faultS at h
 split at h
 ·cases h
 ·split at h
  ·cases h
  ·rename_i h2
   split at h
   ·cases h
   ·rename_i h3
    refine ⟨by simpa using h2, fun e => h3 (Or.inl e), fun e1 e2 => h3 (Or.inr ⟨e1, e2⟩)⟩
theorem batch_good (rs : List (ByteArray × ByteArray)) : ∀ (xs now : List ByteArray) (i : Nat) (ys : List ByteArray), (∀ s ∈ now, goodT rs s) -> batchL rs now i xs = .inr ys -> ∀ s ∈ ys, goodT rs s := by
 intro xs
 induction xs with
 | nil => intro now i ys h e; injection e with e; subst e; exact h
 | cons s l ih =>
  intro now i ys h e
  unfold batchL at e
  split at e
  ·rename_i hf
   refine ih _ _ _ ?_ e
   intro y hy
   rcases withL_mem hy with h1 | h1
   ·exact h y h1
   ·rw [h1]; exact faultS_good hf
  ·cases e
theorem strT_ne {w : World} {v : Value} {xs : List ByteArray} {b : Nat} {cs : Array Value} {t : TypeId} (h : StrT w v xs) (hb : w.heap[b]? = some (.cells cs t (0, 0))) (ht : t ≠ 9) : ∀ a n c, v = .slice (some a) n c -> a.block ≠ b := by
 intro a n c e hab
 rcases h with ⟨rfl, -⟩ | ⟨b', cap, cur, rfl, hh, -⟩
 ·cases e
 ·injection e with e1 e2 e3
  injection e1 with e1
  subst e1
  dsimp only at hab
  subst hab
  rw [hb] at hh
  injection hh with hh
  injection hh with _ hh
  exact ht hh
structure OpR where
 k : Int
 g : Int
 n : Int
 m : Int
 s : ByteArray
 tv : Value
 xs : List ByteArray
structure KG (w : World) (B gb : Nat) (g : Pg) (m : List (Value × Value)) (lo : Nat) (xs now : List ByteArray) : Prop where
 pg : PgAt w gb g
 map : MapAt w HeadG g.mb m
 rmap : RMap w lo xs m
 okx : openErr xs = none
 few : xs.length <= 12
 tv : StrT w g.tv now
 sorted : Sorted now
 nl : now.length <= 50
 tup : ∀ s ∈ now, goodT (ruleOfs xs) s
 lk : g.lk = 0
 cl : g.cl = false
 ver0 : 0 <= g.ver
 verV : g.ver <= 1000000
 gB : B <= gb
def onlyB (gb k : Nat) : Prop := k = gb
theorem KG.later {w w' : World} {B gb : Nat} {g : Pg} {m : List (Value × Value)} {lo : Nat} {xs now : List ByteArray} (h : KG w B gb g m lo xs now) (hb : Below w.heap.size w w') : KG w' B gb g m lo xs now :=
 { h with pg := pg_below h.pg hb, map := (SK.below (X := fun _ => False) hb).mapAt h.map, rmap := (SK.below (X := fun _ => False) hb).rmap h.rmap, tv := (SK.below (X := fun _ => False) hb).strT h.tv }
theorem KG.write1 {w : World} {B gb : Nat} {g : Pg} {m : List (Value × Value)} {lo : Nat} {xs now : List ByteArray} (h : KG w B gb g m lo xs now) (hv : g.ver <= 999999) {s : ByteArray} (hs : s.size <= 1000) (hf : faultS (ruleOfs xs) s = 0) (hl : (doneS now s).length <= 50) (hso : Sorted (doneS now s)) (bb cap : Nat) (hbb : bb ≠ gb) (hc : w.cell? ⟨bb, 0, none⟩ = some (.string s)) :
  Calls Tryz.prog 24 #[.pointer (some ⟨gb, 0, none⟩), .slice (some ⟨bb, 0, none⟩) 1 cap] w fun e w' => e = .returned (.tuple #[.int .i64 (g.ver + 1), .int .i64 0, .int .i64 0]) /\ w.grownBy w' (some gb) /\ ∃ v, (∀ j, v.ownBlock = some j -> w.heap.size <= j) /\ KG w' B gb { g with tv := v, ver := g.ver + 1 } m lo xs (doneS now s) := by
 have hnb := strT_ne h.tv h.pg (by decide)
 obtain ⟨es, cl, hm1, hm2, hm3, hm4⟩ := h.map
 have hfs : ∀ s, faultG m s = faultS (ruleOfs xs) s := fun s => fault_same h.rmap hm4 h.okx s
 have key := ghWrite_open gb g m (ruleOfs xs) now [s] bb 0 cap w h.pg h.lk h.cl h.rmap.ways h.map hfs h.tv.strs h.sorted h.nl hnb (fun i x hx => by
  match i, hx with
  | 0, hx => simp at hx; rw [← hx, Nat.zero_add]; exact hc) hbb (by simp) (fun x hx => by simp at hx; rw [hx]; omega) ⟨h.ver0, by have := h.verV; omega⟩
 refine key.mono ?_
 intro e w' hp
 have e1 : batchL (ruleOfs xs) now 0 [s] = .inr (doneS now s) := by rw [batchL, if_pos hf, batchL]
 rw [e1] at hp
 obtain ⟨hk, hp⟩ := hp
 dsimp only at hp
 rw [if_neg (by omega)] at hp
 obtain ⟨v, rfl, hpg, hown⟩ := hp
 have sk : SK (onlyB gb) w w' := SK.gate hk (cs := g.cells) h.pg (by decide) rfl
 refine ⟨rfl, hk, v, fun j hj => (owns_lt hown j hj).2.1, hpg, sk.mapAt h.map, sk.rmap h.rmap, h.okx, h.few, owns_strT hown, hso, hl, ?_, h.lk, h.cl, by show 0 <= g.ver + 1; have := h.ver0; omega, by show g.ver + 1 <= 1000000; omega, h.gB⟩
 exact batch_good _ _ _ _ _ h.tup e1
theorem kept_then {w wr w2 w3 : World} {gb : Nat} (h : w.grownBy wr (some gb)) (hb : Below wr.heap.size wr w2) (hk : w2.grownBy w3 (some gb)) : w.grownBy w3 (some gb) :=
 ⟨hk.os.trans (hb.os.trans h.os), hk.tape.trans (hb.tape.trans h.tape), hk.output.trans (hb.output.trans h.output), Nat.le_trans h.size (Nat.le_trans hb.size hk.size), fun k hkl hne => by
  have h1 := h.block k hkl hne
  have h2 := hb.block k (Nat.lt_of_lt_of_le hkl h.size)
  have h3 := hk.block k (Nat.lt_of_lt_of_le hkl (Nat.le_trans h.size hb.size)) hne
  rw [h3, h2, h1]⟩
theorem kept_row {w w3 w4 : World} {gb : Nat} {lv : Value} {n : Nat} {us : List Value} (h : w.grownBy w3 (some gb)) (hg : w3.grownBy w4 lv.ownBlock) (hrow : w3.ownsRow w.heap.size 9 1 lv n us) : w.grownBy w4 (some gb) :=
 ⟨hg.os.trans h.os, hg.tape.trans h.tape, hg.output.trans h.output, Nat.le_trans h.size hg.size, fun k hkl hne => by
  have h1 := h.block k hkl hne
  have h2 := hg.block k (Nat.lt_of_lt_of_le hkl h.size) (fun e => by have := (owns_lt hrow k e.symm).2.1; omega)
  rw [h2, h1]⟩
theorem kg_grown {w3 w4 : World} {B gb : Nat} {g : Pg} {m : List (Value × Value)} {lo base n : Nat} {us : List Value} {xs now : List ByteArray} {lv : Value} (h : KG w3 B gb g m lo xs now) (hg : w3.grownBy w4 lv.ownBlock) (hrow : w3.ownsRow base 9 1 lv n us) (hne : ∀ j, lv.ownBlock = some j -> g.tv.ownBlock ≠ some j) : KG w4 B gb g m lo xs now := by
 have hblk : ∀ (k : Nat) (o : Obj), w3.heap[k]? = some o -> (∀ cur : Array Value, o ≠ .cells cur 9 (0, 0)) -> w4.heap[k]? = w3.heap[k]? := by
  intro k o hk ho
  refine hg.block k (row_lt hk) fun e => ?_
  obtain ⟨-, -, cur, hc⟩ := owns_lt hrow k e.symm
  rw [hk] at hc
  injection hc with hc
  exact ho cur hc
 refine { h with pg := ?_, map := ?_, rmap := ?_, tv := ?_ }
 ·exact (hblk _ _ h.pg (by intro cur e; injection e with _ e; revert e; decide)).trans h.pg
 ·obtain ⟨es, cl, h1, -⟩ := h.map
  exact h.map.move (hblk _ _ h1 (by intro cur e; cases e))
 ·exact h.rmap.move fun k cur _ hc => hblk k _ hc (by intro cur' e; injection e with _ e; revert e; decide)
 ·rcases h.tv with e | ⟨b, cap, cur, h1, h2, h3⟩
  ·exact Or.inl e
  ·refine Or.inr ⟨b, cap, cur, h1, ?_, h3⟩
   rw [hg.block b (row_lt h2) ?_]
   ·exact h2
   ·intro e
    exact hne b e.symm (by rw [h1]; rfl)
theorem KG.new {xs : List ByteArray} {wk qu : Int} {w : World} {e : Ending} {w' : World} (hp : POPost xs wk qu w e w') (ha : argsBad xs.length wk qu = false) (ho : openErr xs = none) (hf : xs.length <= 12) :
  ∃ gb g m, e = .returned (.tuple #[.pointer (some ⟨gb, 0, none⟩), .int .i64 0, .int .i64 0]) /\ Below w.heap.size w w' /\ g.ver = 0 /\ KG w' w.heap.size gb g m w.heap.size xs [] := by
 obtain ⟨hb, ⟨h, -⟩ | ⟨-, ⟨k, c, h, -⟩ | ⟨-, b, mb, m, db, he, hlo, hpg, hmb, hm, hr, hd⟩⟩⟩ := hp
 ·rw [ha] at h; cases h
 ·rw [ho] at h; cases h
 ·refine ⟨b, ⟨0, mb, .slice none 0 0, 0, .pointer (some ⟨db, 0, none⟩), false⟩, m, he, hb, rfl, ?_⟩
  exact { pg := hpg, map := hm, rmap := hr, okx := ho, few := hf, tv := Or.inl ⟨rfl, rfl⟩, sorted := List.Pairwise.nil, nl := by simp, tup := (fun s hs => by cases hs), lk := rfl, cl := rfl, ver0 := Int.le_refl _, verV := (by show (0 : Int) <= 1000000; decide), gB := hlo }
end Go.Proofs.YtalmoiogbdahcaaGreat
