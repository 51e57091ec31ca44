import Derived.Test.YtalmoiogbdahcaaGreatTSetA
import Derived.Test.YtalmoiogbdahcaaGreatTGhG
import Derived.Test.YtalmoiogbdahcaaGreatTKrlB
import Derived.Test.YtalmoiogbdahcaaGreatTAskA
import Derived.Test.YtalmoiogbdahcaaGreatTDskH
namespace Go.Proofs.YtalmoiogbdahcaaGreat
set_option maxRecDepth 100000
set_option maxHeartbeats 8000000
open Go.RowKit Go.Shelf
theorem que_sizesK (s : ByteArray) (hs : s.size <= maxLen) : okNd (queX s) := by
 have h0 : (rd0 s).rest.size = s.size := rfl
 have h1 := node_names (rd0 s)
 rw [h0] at h1
 refine ⟨Nat.le_trans h1.1 hs, ?_, Nat.le_trans h1.2 hs⟩
 have h2 := name_size (rd0 s)
 have h3 := must_size (rd0 s).name { data := #[58] }
 have h4 := nameOf_size ((rd0 s).name.must { data := #[58] }).rest
 have : (queX s).n.size <= ((rd0 s).name.must { data := #[58] }).rest.size := h4
 omega
theorem KG.writeL {w : World} {B gb : Nat} {g : Pg} {m : List (Value × Value)} {lo : Nat} {xs now : List ByteArray} (h : KG w B gb g m lo xs now) (hv : g.ver <= 999999) {bs ys : List ByteArray} (hs : ∀ s ∈ bs, s.size <= 1000) (hbl : bs.length <= 20) (hf : batchL (ruleOfs xs) now 0 bs = .inr ys) (hl : ys.length <= 50) (hso : Sorted ys) (bb cap : Nat) (hbb : bb ≠ gb) (hc : ∀ i x, bs[i]? = some x -> w.cell? ⟨bb, 0 + i, none⟩ = some (.string x)) :
  Calls Tryz.prog 24 #[.pointer (some ⟨gb, 0, none⟩), .slice (some ⟨bb, 0, none⟩) bs.length cap] w fun e w' => e = .returned (.tuple #[.int .i64 (g.ver + 1), .int .i64 0, .int .i64 0]) /\ w.grownBy w' (some gb) /\ ∃ v, (∀ j, v.ownBlock = some j -> w.heap.size <= j) /\ KG w' B gb { g with tv := v, ver := g.ver + 1 } m lo xs ys := by
 have hnb := strT_ne h.tv h.pg (by decide)
 obtain ⟨es, cl, hm1, hm2, hm3, hm4⟩ := h.map
 have hfs : ∀ s, faultG m s = faultS (ruleOfs xs) s := fun s => fault_same h.rmap hm4 h.okx s
 have key := ghWrite_open gb g m (ruleOfs xs) now bs bb 0 cap w h.pg h.lk h.cl h.rmap.ways h.map hfs h.tv.strs h.sorted h.nl hnb hc hbb hbl (fun x hx => by have := hs x hx; omega) ⟨h.ver0, by have := h.verV; omega⟩
 refine key.mono ?_
 intro e w' hp
 rw [hf] at hp
 obtain ⟨hk, hp⟩ := hp
 dsimp only at hp
 rw [if_neg (by omega)] at hp
 obtain ⟨v, rfl, hpg, hown⟩ := hp
 have sk : SK (onlyB gb) w w' := SK.gate hk (cs := g.cells) h.pg (by decide) rfl
 refine ⟨rfl, hk, v, fun j hj => (owns_lt hown j hj).2.1, hpg, sk.mapAt h.map, sk.rmap h.rmap, h.okx, h.few, owns_strT hown, hso, hl, ?_, h.lk, h.cl, by show 0 <= g.ver + 1; have := h.ver0; omega, by show g.ver + 1 <= 1000000; omega, h.gB⟩
 exact batch_good _ _ _ _ _ h.tup hf
def kb0 : List ByteArray := [⟨#[43, 103, 114, 111, 117, 112, 58, 122, 35, 109, 101, 109, 98, 101, 114, 64, 117, 115, 101, 114, 58, 122]⟩, ⟨#[43, 100, 111, 99, 58, 122, 35, 114, 101, 97, 100, 101, 114, 64, 103, 114, 111, 117, 112, 58, 122, 35, 109, 101, 109, 98, 101, 114]⟩]
def know0 : List ByteArray := [⟨#[100, 111, 99, 58, 122, 35, 114, 101, 97, 100, 101, 114, 64, 103, 114, 111, 117, 112, 58, 122, 35, 109, 101, 109, 98, 101, 114]⟩, ⟨#[103, 114, 111, 117, 112, 58, 122, 35, 109, 101, 109, 98, 101, 114, 64, 117, 115, 101, 114, 58, 122]⟩]
def kq0 : ByteArray := ⟨#[100, 111, 99, 58, 122, 35, 114, 101, 97, 100, 101, 114, 64, 117, 115, 101, 114, 58, 122]⟩
theorem kb0_done : batchL (ruleOfs krules) [] 0 kb0 = .inr know0 := by decide +kernel
theorem know0_sorted : Sorted know0 := by unfold Sorted know0; decide +kernel
theorem kq0_x : queX kq0 = ⟨docB, zB, readerB⟩ := by decide +kernel
theorem kq0_y : queY kq0 = ⟨userB, zB, noneB⟩ := by decide +kernel
theorem kq0_ok : queOk kq0 = true /\ queC kq0 = true /\ hasR krules (queX kq0) = true := by decide +kernel
theorem know0_ts : tsOf know0 = [(⟨docB, zB, readerB⟩, ⟨groupB, zB, memberB⟩), (⟨groupB, zB, memberB⟩, ⟨userB, zB, noneB⟩)] := by decide +kernel
theorem std_this {ts : List (Nod × Nod)} {rule : Nod -> WayT} {u x : Nod} (hr : rule x = thisW) : Std ts rule u x ↔ ∃ y ∈ subsOf ts x, inU u (Std ts rule u) y := by
 have : toldW ts (inU u (Std ts rule u)) x thisW ↔ ∃ y ∈ subsOf ts x, inU u (Std ts rule u) y := by
  unfold thisW
  rw [toldX_leaf (by decide) (by decide)]
  have e : namedW ts x (.mk 0 noneB noneB []) = subsOf ts x := by simp [namedW, isLeaf, leafW]
  rw [e]
 rw [Std.iff, hr, this]
theorem kq0_std : Std (tsOf know0) (ruleN krules) ⟨userB, zB, noneB⟩ ⟨docB, zB, readerB⟩ := by
 have h1 : Std (tsOf know0) (ruleN krules) ⟨userB, zB, noneB⟩ ⟨groupB, zB, memberB⟩ := by
  rw [std_this (kr_member zB)]
  exact ⟨⟨userB, zB, noneB⟩, mem_subsOf.2 (by rw [know0_ts]; simp), by unfold inU; rw [if_pos (by decide +kernel)]⟩
 rw [Std.iff, kr_reader zB, toldW, if_pos rfl, toldO]
 left
 unfold thisW
 rw [toldX_leaf (by decide) (by decide)]
 refine ⟨⟨groupB, zB, memberB⟩, ?_, ?_⟩
 ·have e : namedW (tsOf know0) ⟨docB, zB, readerB⟩ (.mk 0 noneB noneB []) = subsOf (tsOf know0) ⟨docB, zB, readerB⟩ := by simp [namedW, isLeaf, leafW]
  rw [e]
  exact mem_subsOf.2 (by rw [know0_ts]; simp)
 ·unfold inU
  rw [if_neg (by decide +kernel)]
  exact h1
theorem kq0_check {w : World} {e : Ending} {w' : World} (h : CheckP krules know0 kq0 w e w') : e = .returned (.tuple #[.bool true, .int .i64 0]) /\ Below w.heap.size w w' := by
 obtain ⟨bo, er, rfl, hb, he, hbo⟩ := h
 obtain ⟨q1, q2, q3⟩ := kq0_ok
 have e0 : er = 0 := by
  rw [he, q1, q2, q3]; rfl
 have e1 : bo = true := hbo.2 ⟨e0, ⟨userB, zB, noneB⟩, ⟨by decide +kernel, ⟨(⟨groupB, zB, memberB⟩, ⟨userB, zB, noneB⟩), by rw [know0_ts]; simp, rfl⟩, by rw [kq0_x]; exact kq0_std⟩, by rw [kq0_y]⟩
 rw [e0, e1]
 exact ⟨rfl, hb⟩
structure KD (w : World) (B gb : Nat) (g : Pg) (m : List (Value × Value)) (lo : Nat) (xs now : List ByteArray) (R Q : Nat -> Prop) (D : Dk) : Prop where
 pg : PgAt w gb g
 ru : Kpt R (fun w => MapAt w HeadG g.mb m /\ RMap w lo xs m) w
 okx : openErr xs = none
 few : xs.length <= 12
 tv : StrT w g.tv now
 sorted : Sorted now
 nl : now.length <= 50
 tup : ∀ s ∈ now, goodT (ruleOfs xs) s
 lk : g.lk = 0
 ver0 : 0 <= g.ver
 verV : g.ver <= 1000000
 gB : B <= gb
 dk : ∃ db tv wb ls, g.dk = .pointer (some ⟨db, 0, none⟩) /\ DkAt xs g.mb R db Q D tv wb ls w
 dw : DkW D
 gQ : ¬ Q gb
 gR : ¬ R gb
 vQ : ∀ k, g.tv.ownBlock = some k -> ¬ Q k
 QB : ∀ k, Q k -> B <= k
theorem KD.kg {w : World} {B gb : Nat} {g : Pg} {m : List (Value × Value)} {lo : Nat} {xs now : List ByteArray} {R Q : Nat -> Prop} {D : Dk} (h : KD w B gb g m lo xs now R Q D) (hc : g.cl = false) : KG w B gb g m lo xs now :=
 { pg := h.pg, map := h.ru.now.1, rmap := h.ru.now.2, okx := h.okx, few := h.few, tv := h.tv, sorted := h.sorted, nl := h.nl, tup := h.tup, lk := h.lk, cl := hc, ver0 := h.ver0, verV := h.verV, gB := h.gB }
theorem KD.lt {w : World} {B gb : Nat} {g : Pg} {m : List (Value × Value)} {lo : Nat} {xs now : List ByteArray} {R Q : Nat -> Prop} {D : Dk} (h : KD w B gb g m lo xs now R Q D) : (∀ k, Q k -> k < w.heap.size) /\ (∀ k, R k -> ¬ Q k) := by
 obtain ⟨db, tv, wb, ls, -, hd⟩ := h.dk
 exact ⟨hd.lt, hd.rq⟩
theorem KD.later {w w' : World} {B gb : Nat} {g : Pg} {m : List (Value × Value)} {lo : Nat} {xs now : List ByteArray} {R Q : Nat -> Prop} {D : Dk} (h : KD w B gb g m lo xs now R Q D) (hb : Below w.heap.size w w') : KD w' B gb g m lo xs now R Q D := by
 obtain ⟨db, tv, wb, ls, h1, hd⟩ := h.dk
 exact { h with pg := pg_below h.pg hb, ru := h.ru.below hb, tv := strT_to h.tv fun k hk => hb.block k (strT_own h.tv k hk).1, dk := ⟨db, tv, wb, ls, h1, hd.below hb⟩ }
theorem KD.doc {w : World} {B gb : Nat} {g : Pg} {m : List (Value × Value)} {lo : Nat} {xs now : List ByteArray} {R Q : Nat -> Prop} {D : Dk} (h : KD w B gb g m lo xs now R Q D) : DocOk xs now := by
 refine ⟨fun y hy => ?_, h.few, fun s hs => ?_, h.nl⟩
 ·obtain ⟨j, hj⟩ := List.mem_iff_getElem?.1 hy
  exact ok_all h.okx j y hj
 ·rw [← tuple_same]; exact (h.tup s hs).1
theorem KD.gate {w : World} {B gb : Nat} {g : Pg} {m : List (Value × Value)} {lo : Nat} {xs now : List ByteArray} {R Q : Nat -> Prop} {D : Dk} (h : KD w B gb g m lo xs now R Q D) (s : ByteArray) (hs : s.size <= maxLen) : GateQ (relU xs now s) xs now gb g w :=
 gateQ_of h.pg h.lk ⟨_, _, h.ru.now.1, h.ru.now.2⟩ h.tv h.nl h.few (fun y hy => (read_rule y (h.doc.hv y hy)).1) h.doc.ht s (que_sizesK s hs).2.2
theorem tv_ne_gate {w : World} {gb : Nat} {g : Pg} {now : List ByteArray} (ht : StrT w g.tv now) (hg : PgAt w gb g) : ∀ k, g.tv.ownBlock = some k -> k ≠ gb := by
 intro k hk e
 obtain ⟨-, cur, h1⟩ := strT_own ht k hk
 unfold PgAt at hg
 rw [e, hg] at h1
 injection h1 with h1
 injection h1 with _ h1
 revert h1; decide
theorem KD.turn {w w' : World} {B gb : Nat} {g : Pg} {m : List (Value × Value)} {lo : Nat} {xs now : List ByteArray} {R Q : Nat -> Prop} {D : Dk} (h : KD w B gb g m lo xs now R Q D) {Q' : Nat -> Prop} {D' : Dk} {c : Bool} (hf : Frm (fun k => Q k \/ k = gb) w w') (hpg : PgAt w' gb { g with cl := c }) {db : Nat} {tv : Value} {wb : Nat} {ls : List Rl} (hdb : g.dk = .pointer (some ⟨db, 0, none⟩)) (hd : DkAt xs g.mb R db Q' D' tv wb ls w') (hw : DkW D') (hQ : ∀ k, Q' k -> more Q w w' k) : KD w' B gb { g with cl := c } m lo xs now R Q' D' := by
 have hlt := row_lt h.pg
 have hB : B <= w.heap.size := Nat.le_trans h.gB (Nat.le_of_lt hlt)
 refine { h with pg := hpg, ru := h.ru.frm hf fun k hk e => ?_, tv := strT_to h.tv fun k hk => hf.block k (strT_own h.tv k hk).1 fun e => ?_, dk := ⟨db, tv, wb, ls, hdb, hd⟩, dw := hw, gQ := fun e => ?_, vQ := fun k hk e => ?_, QB := fun k e => ?_ }
 ·rcases e with e | e
  ·exact h.lt.2 k hk e
  ·exact h.gR (e ▸ hk)
 ·rcases e with e | e
  ·exact h.vQ k hk e
  ·exact tv_ne_gate h.tv h.pg k hk e
 ·rcases hQ _ e with e | e
  ·exact h.gQ e
  ·omega
 ·rcases hQ _ e with e | e
  ·exact h.vQ k hk e
  ·have := (strT_own h.tv k hk).1; omega
 ·rcases hQ _ e with e | e
  ·exact h.QB k e
  ·omega
theorem KD.lockd {w : World} {B gb : Nat} {g : Pg} {m : List (Value × Value)} {lo : Nat} {xs now : List ByteArray} {R Q : Nat -> Prop} {D : Dk} (h : KD w B gb g m lo xs now R Q D) : ∃ db tv wb ls, g.dk = .pointer (some ⟨db, 0, none⟩) /\ DkAt xs g.mb R db Q D tv wb ls (w.setCell ⟨gb, 0, none⟩ (.int .i32 1)) /\ PgAt (w.setCell ⟨gb, 0, none⟩ (.int .i32 1)) gb { g with lk := 1 } /\ Kpt R (fun w => MapAt w HeadG g.mb m /\ RMap w lo xs m) (w.setCell ⟨gb, 0, none⟩ (.int .i32 1)) /\ StrT (w.setCell ⟨gb, 0, none⟩ (.int .i32 1)) g.tv now /\ Frm (fun k => k = gb) w (w.setCell ⟨gb, 0, none⟩ (.int .i32 1)) /\ (w.setCell ⟨gb, 0, none⟩ (.int .i32 1)).heap.size = w.heap.size := by
 obtain ⟨db, tv, wb, ls, h1, hd⟩ := h.dk
 have hf : Frm (fun k => k = gb) w (w.setCell ⟨gb, 0, none⟩ (.int .i32 1)) := ⟨rfl, rfl, rfl, by simp [World.setCell], fun k _ hx => Below.heap_setCell _ _ _ _ hx⟩
 refine ⟨db, tv, wb, ls, h1, hd.keep hf.size (fun k hk => hf.block k (hd.lt k hk) fun e => h.gQ (e ▸ hk)) (fun k hk => hf.block k (hd.ru.lt k hk) fun e => h.gR (e ▸ hk)), pg_lock h.pg 1, h.ru.frm hf fun k hk e => h.gR (e ▸ hk), strT_to h.tv fun k hk => hf.block k (strT_own h.tv k hk).1 (tv_ne_gate h.tv h.pg k hk), hf, by simp [World.setCell]⟩
theorem KD.wrote {w w' : World} {B gb : Nat} {g : Pg} {m : List (Value × Value)} {lo : Nat} {xs now ys : List ByteArray} {R Q : Nat -> Prop} {D : Dk} (h : KD w B gb g m lo xs now R Q D) (hk : w.grownBy w' (some gb)) {v : Value} (hv : ∀ j, v.ownBlock = some j -> w.heap.size <= j) (kg : KG w' B gb { g with tv := v, ver := g.ver + 1 } m lo xs ys) : KD w' B gb { g with tv := v, ver := g.ver + 1 } m lo xs ys R Q D := by
 obtain ⟨db, tv, wb, ls, h1, hd⟩ := h.dk
 have hblk : ∀ k, k < w.heap.size -> k ≠ gb -> w'.heap[k]? = w.heap[k]? := fun k h1 h2 => hk.block k h1 fun e => h2 (Option.some.inj e)
 exact { pg := kg.pg, ru := h.ru.to hk.size fun k hk => hblk k (h.ru.lt k hk) fun e => h.gR (e ▸ hk), okx := h.okx, few := h.few, tv := kg.tv, sorted := kg.sorted, nl := kg.nl, tup := kg.tup, lk := h.lk, ver0 := kg.ver0, verV := kg.verV, gB := h.gB, dk := ⟨db, tv, wb, ls, h1, hd.keep hk.size (fun k hk => hblk k (hd.lt k hk) fun e => h.gQ (e ▸ hk)) (fun k hk => hblk k (hd.ru.lt k hk) fun e => h.gR (e ▸ hk))⟩, dw := h.dw, gQ := h.gQ, gR := h.gR, vQ := fun k hk e => by have := hv k hk; have := hd.lt k e; omega, QB := h.QB }
def newD (wk : Nat) (qu : Int) : Dk := ⟨qu, 0, [], List.replicate wk none⟩
theorem deskNew_at {w : World} {lo db wk : Nat} {qu : Int} (h : DeskNew w lo db wk qu) (h1 : 1 <= wk) (h4 : wk <= 4) (q1 : 1 <= qu) (q6 : qu <= 6) {xs : List ByteArray} {mr : Nat} {R : Nat -> Prop} (ru : Kpt R (fun w => RulesN w mr xs) w) (hR : ∀ k, R k -> (∃ es cl, w.heap[k]? = some (.map es cl)) \/ ∃ cur, w.heap[k]? = some (.cells cur 106 (0, 0))) :
  ∃ wb, lo <= wb /\ DkAt xs mr R db (fun k => k = db \/ k = wb) (newD wk qu) (.slice none 0 0) wb [] w := by
 obtain ⟨hlo, wb, hwb, hb, hr⟩ := h
 have hq : ∀ k, R k -> ¬ (k = db \/ k = wb) := by
  intro k hk e
  rcases e with e | e
  ·rcases hR k hk with ⟨es, cl, h2⟩ | ⟨cur, h2⟩
   ·rw [e, hb] at h2; injection h2 with h2; cases h2
   ·rw [e, hb] at h2; injection h2 with h2; injection h2 with _ h2; revert h2; decide
  ·rcases hR k hk with ⟨es, cl, h2⟩ | ⟨cur, h2⟩
   ·rw [e, hr] at h2; injection h2 with h2; cases h2
   ·rw [e, hr] at h2; injection h2 with h2; injection h2 with _ h2; revert h2; decide
 refine ⟨wb, hwb, ?_⟩
 have hm : (List.replicate wk (none : Option Nat)).map (wkV []) = noReq wk := by rw [List.map_replicate]; rfl
 refine ⟨?_, World.ownsRow_nil _ _ _ _, ?_, rfl, (fun i l r hl => by simp at hl), (fun i j l l' k hl => by simp at hl), (fun l hl => by cases hl), Or.inl rfl, Or.inr rfl, (fun k e => by cases e), (fun l hl => by cases hl), (fun l hl => by cases hl), (fun l hl => by cases hl), (fun e => by cases e), fun k e => ?_, ?_, ru, hq⟩
 ·show _ = some (Obj.cells (deskL qu 0 (.slice none 0 0) (.slice (some ⟨wb, 0, none⟩) (List.replicate wk (none : Option Nat)).length (List.replicate wk (none : Option Nat)).length)).toArray _ _)
  rw [List.length_replicate]; exact hb
 ·show _ = some (Obj.cells ((List.replicate wk (none : Option Nat)).map (wkV [])).toArray _ _)
  rw [hm]; exact hr
 ·rcases e with e | e
  ·rw [e]; exact row_lt hb
  ·rw [e]; exact row_lt hr
 ·refine ⟨?_, ?_, ?_, ?_, ?_, q1, q6, fun i j hij => ?_⟩
  ·show 1 <= (List.replicate wk (none : Option Nat)).length; rw [List.length_replicate]; exact h1
  ·show (List.replicate wk (none : Option Nat)).length <= 4; rw [List.length_replicate]; exact h4
  ·show 0 <= 30; omega
  ·show (0 : Int) <= 0; decide
  ·show (0 : Int) <= 1000000000; decide
  ·have h2 : (List.replicate wk (none : Option Nat))[i]? = some (some j) := hij
   rw [List.getElem?_replicate] at h2
   split at h2
   ·injection h2 with h2; cases h2
   ·cases h2
theorem newD_w (wk : Nat) (qu : Int) : DkW (newD wk qu) := by
 intro i j r hi hr
 have h2 : ([] : List Rq)[j]? = some r := hr
 simp at h2
theorem KD.new {xs : List ByteArray} {wk : Nat} {qu : Int} {w : World} {e : Ending} {w' : World} (hp : POPost xs wk qu w e w') (ha : argsBad xs.length wk qu = false) (ho : openErr xs = none) (hf : xs.length <= 12) (h1 : 1 <= wk) (h4 : wk <= 4) (q1 : 1 <= qu) (q6 : qu <= 6) :
  ∃ gb g m R Q, e = .returned (.tuple #[.pointer (some ⟨gb, 0, none⟩), .int .i64 0, .int .i64 0]) /\ Below w.heap.size w w' /\ g.ver = 0 /\ g.cl = false /\ KD w' w.heap.size gb g m w.heap.size xs [] R Q (newD wk qu) := by
 obtain ⟨hb, ⟨h, -⟩ | ⟨-, ⟨k, c, h, -⟩ | ⟨-, b, mb, m, db, he, hlo, hpg, hmb, hm, hr, hd⟩⟩⟩ := hp
 ·rw [ha] at h; cases h
 ·rw [ho] at h; cases h
 ·have hpg2 : PgAt w' b ⟨0, mb, .slice none 0 0, 0, .pointer (some ⟨db, 0, none⟩), false⟩ := hpg
  have hlm := hm.lt
  have hm2 := hm
  obtain ⟨es, cl, hmm, -⟩ := hm2
  have ru : Kpt (fun k => k = mb \/ ∃ cur, w'.heap[k]? = some (.cells cur 106 (0, 0))) (fun v => MapAt v HeadG mb m /\ RMap v w.heap.size xs m) w' := by
   refine ⟨fun v hv => ⟨hm.move (hv mb (Or.inl rfl)), hr.move fun g cur _ hc => hv g (Or.inr ⟨cur, hc⟩)⟩, fun k e => ?_⟩
   rcases e with e | ⟨cur, e⟩
   ·rw [e]; exact hlm
   ·exact row_lt e
  have ru2 : Kpt (fun k => k = mb \/ ∃ cur, w'.heap[k]? = some (.cells cur 106 (0, 0))) (fun v => RulesN v mb xs) w' := ⟨fun v hv => ⟨m, _, (ru.all v hv).1, (ru.all v hv).2⟩, ru.lt⟩
  have hd' : DeskNew w' w.heap.size db wk qu := by
   have e : ((wk : Int)).toNat = wk := Int.toNat_natCast wk
   rw [e] at hd; exact hd
  have hd0 := hd'
  obtain ⟨hdl, wb0, -, hdb, hdw⟩ := hd0
  obtain ⟨wb, hwb, hdk⟩ := deskNew_at hd' h1 h4 q1 q6 ru2 (fun k e => by
   rcases e with e | e
   ·exact Or.inl ⟨es, cl, by rw [e]; exact hmm⟩
   ·exact Or.inr e)
  refine ⟨b, ⟨0, mb, .slice none 0 0, 0, .pointer (some ⟨db, 0, none⟩), false⟩, m, _, _, he, hb, rfl, rfl, { pg := hpg2, ru := ru, okx := ho, few := hf, tv := Or.inl ⟨rfl, rfl⟩, sorted := List.Pairwise.nil, nl := by simp, tup := (fun s hs => by cases hs), lk := rfl, ver0 := Int.le_refl _, verV := (by show (0 : Int) <= 1000000; decide), gB := hlo, dk := ⟨db, _, wb, [], rfl, hdk⟩, dw := newD_w _ _, gQ := fun e => ?_, gR := fun e => ?_, vQ := (fun k e => by cases e), QB := fun k e => ?_ }⟩
  ·rcases e with e | e
   ·rw [e, hdk.blk] at hpg; injection hpg with h2; injection h2 with _ h2; revert h2; decide
   ·rw [e, hdk.wrow] at hpg; injection hpg with h2; injection h2 with _ h2; revert h2; decide
  ·rcases e with e | ⟨cur, e⟩
   ·rw [e, hmm] at hpg; injection hpg with h2; cases h2
   ·rw [e] at hpg; injection hpg with h2; injection h2 with _ h2; revert h2; decide
  ·rcases e with e | e
   ·rw [e]; exact hdl
   ·rw [e]; exact hwb
theorem KD.base {w : World} {B B' gb : Nat} {g : Pg} {m : List (Value × Value)} {lo : Nat} {xs now : List ByteArray} {R Q : Nat -> Prop} {D : Dk} (h : KD w B gb g m lo xs now R Q D) (hb : B' <= B) : KD w B' gb g m lo xs now R Q D :=
 { h with gB := Nat.le_trans hb h.gB, QB := fun k e => Nat.le_trans hb (h.QB k e) }
def KOpenD (wk : Nat) (qu : Int) (w : World) (e : Ending) (w' : World) : Prop :=
 ∃ gb g m lo R Q, e = .returned (.pointer (some ⟨gb, 0, none⟩)) /\ Below w.heap.size w w' /\ g.ver = 1 /\ g.cl = false /\ KD w' w.heap.size gb g m lo krules know0 R Q (newD wk qu)
theorem kopenD_chain (HN : Hid NodeC) (HW : Hid TWayC) {w : World} {wk : Nat} {qu : Int} (h1 : 1 <= wk) (h2 : wk <= 4) (h3 : 1 <= qu) (h4 : qu <= 6) {w1 : World} (hb1 : Below w.heap.size w w1) (hrow : RowAt w1 w.heap.size krules) :
  Calls Tryz.prog 26 #[.slice (some ⟨w.heap.size, 0, none⟩) 7 7, .int .i64 wk, .int .i64 qu] w1 fun e w2 => ∃ gb, e = .returned (.tuple #[.pointer (some ⟨gb, 0, none⟩), .int .i64 0, .int .i64 0]) /\
   Hid (Calls Tryz.prog 24 #[.pointer (some ⟨gb, 0, none⟩), .slice (some ⟨w2.heap.size, 0, none⟩) 2 2] (w2.alloc (.cells (strV kb0).toArray 9)) fun e w3 => e = .returned (.tuple #[.int .i64 1, .int .i64 0, .int .i64 0]) /\
    Hid (Calls Tryz.prog 21 #[.pointer (some ⟨gb, 0, none⟩), .string kq0] w3 fun e w4 => e = .returned (.tuple #[.bool true, .int .i64 0]) /\ KOpenD wk qu w (.returned (.pointer (some ⟨gb, 0, none⟩))) w4)) := by
 have hst : StrsAt w1 (.slice (some ⟨w.heap.size, 0, none⟩) 7 7) krules := Or.inr ⟨w.heap.size, 0, 7, rfl, fun i x hx => by rw [Nat.zero_add]; exact row_cell hrow (strV_get hx)⟩
 refine (ghOpen_any _ krules (wk : Int) qu w1 hst (by rw [krules_len]; unfold maxLen; omega)).mono ?_
 intro e w2 hp
 have ha : argsBad krules.length (wk : Int) qu = false := by
  rw [krules_len]
  unfold argsBad
  simp only [Bool.or_eq_false_iff, decide_eq_false_iff_not]
  omega
 obtain ⟨gb, g, m, R, Q, rfl, hb2, hv, hcl, kd⟩ := KD.new hp ha krules_ok (by rw [krules_len]; omega) h1 h2 h3 h4
 refine ⟨gb, rfl, ?_⟩
 have hb2a : Below w2.heap.size w2 (w2.alloc (.cells (strV kb0).toArray 9)) := (Below.refl _ _).alloc (Nat.le_refl _) _
 have hgl := row_lt kd.pg
 refine (((kd.later hb2a).kg hcl).writeL (by rw [hv]; decide) (bs := kb0) (ys := know0) (by decide) (by decide) kb0_done (by decide) know0_sorted w2.heap.size 2 (by omega) (fun i x hx => by rw [Nat.zero_add]; exact row_cell (alloc_new w2 (strV kb0) _) (strV_get hx))).mono ?_
 rintro e w3 ⟨rfl, hk, v, hvb, kg3⟩
 have kd3 := (kd.later hb2a).wrote hk hvb kg3
 refine ⟨by rw [hv]; rfl, ?_⟩
 refine (check_any HN HW (kd3.gate kq0 (by unfold maxLen; decide)) kq0 (by unfold maxLen; decide) (fun h _ => queOk_of h krules know0) (que_sizesK kq0 (by unfold maxLen; decide))).mono ?_
 intro e w4 hq
 obtain ⟨rfl, hb4⟩ := kq0_check hq
 have hb02 : Below w.heap.size w w2 := hb1.trans (hb2.mono hb1.size)
 have hb03 : Below w.heap.size w w3 := by
  have hs : w.heap.size <= w1.heap.size := hb1.size
  have h := kd.gB
  exact (hb02.trans (hb2a.mono hb02.size)).grown hk (Nat.le_trans hb02.size hb2a.size) (fun j hj => by injection hj with hj; omega)
 exact ⟨rfl, gb, { g with tv := v, ver := g.ver + 1 }, m, _, R, Q, rfl, hb03.trans (hb4.mono hb03.size), by show g.ver + 1 = 1; rw [hv]; rfl, hcl, (kd3.later hb4).base hb1.size⟩
theorem kOpenD (HN : Hid NodeC) (HW : Hid TWayC) (w : World) (wk : Nat) (qu : Int) (h1 : 1 <= wk) (h2 : wk <= 4) (h3 : 1 <= qu) (h4 : qu <= 6) :
  Calls Tryz.prog 14 #[.int .i64 wk, .int .i64 qu] w (KOpenD wk qu w) := by
 have hru := krules_any w
 have HC0 : Hid (1 <= wk /\ wk <= 4 /\ 1 <= qu /\ qu <= 6) := ⟨h1, h2, h3, h4⟩
 clear h1 h2 h3 h4
 go_enter Tryz.func14, Tryz.ntmps14
 go_wp2_with (first | (go_at_call 38; refine hru.mono ?_; rintro e w1 ⟨rfl, hrow, hb1⟩; have HO : Hid (Calls Tryz.prog 26 #[.slice (some ⟨w.heap.size, 0, none⟩) 7 7, .int .i64 wk, .int .i64 qu] w1 _) := kopenD_chain HN HW HC0.out.1 HC0.out.2.1 HC0.out.2.2.1 HC0.out.2.2.2 hb1 hrow; clear hrow hb1) | (go_at_call 26; refine HO.out.mono ?_; rintro e w2 ⟨gb, rfl, HWR⟩) | (go_at_call 24; refine HWR.out.mono ?_; rintro e w3 ⟨rfl, HC⟩) | (go_at_call 21; refine HC.out.mono ?_; rintro e w4 ⟨rfl, hp⟩; have HP : Hid (KOpenD wk qu w (.returned (.pointer (some ⟨gb, 0, none⟩))) w4) := hp; clear hp))
 go_ret
 exact HP.out
def OpP (w : World) (B gb : Nat) (g : Pg) (m : List (Value × Value)) (lo : Nat) (xs now : List ByteArray) (R Q : Nat -> Prop) (c : Bool) (Rel : Dk -> Prop) (w' : World) : Prop :=
 ∃ Q' D', Rel D' /\ KD w' B gb { g with cl := c } m lo xs now R Q' D' /\ Frm (fun k => Q k \/ k = gb) w w' /\ ∀ k, Q' k -> more Q w w' k
theorem KD.done {w : World} {B gb : Nat} {g : Pg} {m : List (Value × Value)} {lo : Nat} {xs now : List ByteArray} {R Q : Nat -> Prop} {D : Dk} (h : KD w B gb g m lo xs now R Q D) {w2 : World} (hf : Frm (fun k => Q k \/ k = gb) w w2) {c : Bool} (hpg : PgAt w2 gb { g with lk := 1, cl := c }) {db : Nat} {tv : Value} {wb : Nat} {ls : List Rl} {Q' : Nat -> Prop} {D' : Dk} (hdb : g.dk = .pointer (some ⟨db, 0, none⟩)) (hd : DkAt xs g.mb R db Q' D' tv wb ls w2) (hw : DkW D') (hQ : ∀ k, Q' k -> more Q w w2 k) {Rel : Dk -> Prop} (hr : Rel D') : OpP w B gb g m lo xs now R Q c Rel (w2.setCell ⟨gb, 0, none⟩ (.int .i32 0)) := by
 have hlt := row_lt h.pg
 have hz : (w2.setCell ⟨gb, 0, none⟩ (.int .i32 0)).heap.size = w2.heap.size := by simp [World.setCell]
 have hf3 : Frm (fun k => k = gb) w2 (w2.setCell ⟨gb, 0, none⟩ (.int .i32 0)) := ⟨rfl, rfl, rfl, by rw [hz]; exact Nat.le_refl _, fun k _ hx => Below.heap_setCell _ _ _ _ hx⟩
 have hff : Frm (fun k => Q k \/ k = gb) w (w2.setCell ⟨gb, 0, none⟩ (.int .i32 0)) := hf.trans hf3 fun k _ e => Or.inr e
 have hgQ : ¬ Q' gb := fun e => by
  rcases hQ _ e with e | e
  ·exact h.gQ e
  ·omega
 have hQ3 : ∀ k, Q' k -> more Q w (w2.setCell ⟨gb, 0, none⟩ (.int .i32 0)) k := fun k e => by
  rcases hQ k e with e | e
  ·exact Or.inl e
  ·exact Or.inr ⟨e.1, by rw [hz]; exact e.2⟩
 have hpg3 : PgAt (w2.setCell ⟨gb, 0, none⟩ (.int .i32 0)) gb { g with cl := c } := by
  have := pg_lock hpg 0
  obtain ⟨lk, mb, tv', ver, dk, cl⟩ := g
  have hlk : lk = 0 := h.lk
  subst hlk
  exact this
 exact ⟨Q', D', hr, h.turn hff hpg3 hdb (hd.keep hf3.size (fun k hk => hf3.block k (hd.lt k hk) fun e => hgQ (e ▸ hk)) (fun k hk => hf3.block k (hd.ru.lt k hk) fun e => h.gR (e ▸ hk))) hw hQ3, hff, hQ3⟩
theorem KD.same {w : World} {B gb : Nat} {g : Pg} {m : List (Value × Value)} {lo : Nat} {xs now : List ByteArray} {R Q : Nat -> Prop} {D : Dk} (h : KD w B gb g m lo xs now R Q D) {w2 : World} (hb : Below w.heap.size (w.setCell ⟨gb, 0, none⟩ (.int .i32 1)) w2) {Rel : Dk -> Prop} (hr : Rel D) : OpP w B gb g m lo xs now R Q g.cl Rel (w2.setCell ⟨gb, 0, none⟩ (.int .i32 0)) /\ PgAt w2 gb { g with lk := 1 } := by
 obtain ⟨db, tv, wb, ls, h1, hd, hpg, -, -, hf, hz⟩ := h.lockd
 have hb2 : Below (w.setCell ⟨gb, 0, none⟩ (.int .i32 1)).heap.size (w.setCell ⟨gb, 0, none⟩ (.int .i32 1)) w2 := by rw [hz]; exact hb
 have hpg2 := pg_below hpg hb2
 refine ⟨h.done (D' := D) (Q' := Q) ((hf.mono fun k _ e => Or.inr e).trans (Frm.of_below (X := fun _ => False) hb2) fun _ _ e => e.elim) hpg2 h1 (hd.below hb2) h.dw (fun k e => Or.inl e) hr, hpg2⟩
open Go.RowKit Go.Shelf Go.MuLone
theorem KD.after {w : World} {B gb : Nat} {g : Pg} {m : List (Value × Value)} {lo : Nat} {xs now : List ByteArray} {R Q : Nat -> Prop} {D : Dk} (h : KD w B gb g m lo xs now R Q D) {w2 : World} {db : Nat} {tv : Value} {wb : Nat} {ls : List Rl} (hdb : g.dk = .pointer (some ⟨db, 0, none⟩)) (hf : Frm Q (w.setCell ⟨gb, 0, none⟩ (.int .i32 1)) w2) {Q' : Nat -> Prop} {D' : Dk} (hd : DkAt xs g.mb R db Q' D' tv wb ls w2) (hw : DkW D') (hQ : ∀ k, Q' k -> more Q w w2 k) {Rel : Dk -> Prop} (hr : Rel D') :
  w2.cell? ⟨gb, 0, none⟩ = some (.int .i32 1) /\ w2.frozen? ⟨gb, 0, none⟩ = false /\ OpP w B gb g m lo xs now R Q g.cl Rel (w2.setCell ⟨gb, 0, none⟩ (.int .i32 0)) := by
 obtain ⟨-, -, -, -, -, -, hpg1, -, -, hf1, hz1⟩ := h.lockd
 have hg := row_lt hpg1
 have hpg2 : PgAt w2 gb { g with lk := 1 } := (hf.block gb hg h.gQ).trans hpg1
 exact ⟨row_cell hpg2 (j := 0) rfl, row_frozen hpg2 0, h.done ((hf1.mono fun k _ e => Or.inr e).trans hf fun k _ e => Or.inl e) hpg2 hdb hd hw hQ hr⟩
theorem more_at {Q : Nat -> Prop} {w w1 w2 : World} (hz : w1.heap.size = w.heap.size) {k : Nat} (e : more Q w1 w2 k) : more Q w w2 k := by
 rcases e with e | e
 ·exact Or.inl e
 ·exact Or.inr ⟨by omega, e.2⟩
theorem dstep_w {xs : List ByteArray} {D : Dk} {i : Nat} {D' : Dk} (hs : DStep xs D i D') (hW : DkW D) (hl : ∀ (k : Nat) (r : Rq), D.rs[k]? = some r -> r.is = 1 -> r.tk ≠ none) : DkW D' := by
 cases hs with
 | idle D1 h1 h2 =>
  rw [h1]
  split
  ·exact giveD_w hW hl i
  ·exact hW
 | work D1 h1 j h2 r r' t fin hr ht hs => exact dismissD_w _
theorem gStep_ok (HW : Hid TWayC) {w : World} {B gb : Nat} {g : Pg} {m : List (Value × Value)} {lo : Nat} {xs now : List ByteArray} {R Q : Nat -> Prop} {D : Dk} (h : KD w B gb g m lo xs now R Q D) (hc : g.cl = false) {i : Nat} (hi : i < D.wk.length) :
  Calls Tryz.prog 28 #[.pointer (some ⟨gb, 0, none⟩), .int .i64 i] w fun e w' => e = .returned (.int .i64 0) /\ OpP w B gb g m lo xs now R Q g.cl (DStep xs D i) w' := by
 obtain ⟨db, tv, wb, ls, hdb, hd1, hpg1, -, -, hf1, hz1⟩ := h.lockd
 have hM := h.dw
 have HHW : Hid (Calls Tryz.prog 62 #[.pointer (some ⟨db, 0, none⟩), .int .i64 i] (w.setCell ⟨gb, 0, none⟩ (.int .i32 1)) fun e w' => e = .returned (.bool true) /\ w' = (w.setCell ⟨gb, 0, none⟩ (.int .i32 1))) := by
  refine (dkHasW_any hd1 (i : Int)).mono ?_
  rintro e w' ⟨rfl, hw⟩
  have e2 : (decide ((0 : Int) <= i) && decide ((i : Int) < (D.wk.length : Nat))) = true := by
   rw [Bool.and_eq_true]; exact ⟨decide_eq_true (by omega), decide_eq_true (by omega)⟩
  exact ⟨by rw [e2], hw⟩
 have HST : Hid (Calls Tryz.prog 63 #[.pointer (some ⟨db, 0, none⟩), .int .i64 i] (w.setCell ⟨gb, 0, none⟩ (.int .i32 1)) fun e w2 => e = .returned (.tuple #[]) /\ w2.cell? ⟨gb, 0, none⟩ = some (.int .i32 1) /\ w2.frozen? ⟨gb, 0, none⟩ = false /\ Hid (OpP w B gb g m lo xs now R Q g.cl (DStep xs D i) (w2.setCell ⟨gb, 0, none⟩ (.int .i32 0)))) := by
  refine (dkStep_any HW hd1 hM hi).mono ?_
  rintro e w2 ⟨rfl, hf, D', ls', hs, hD⟩
  exact ⟨rfl, h.after hdb hf hD (dstep_w hs hM hd1.liveR) (fun k e => more_at hz1 e) hs⟩
 have h0 := row_cell h.pg (j := 0) rfl
 have f0 := row_frozen h.pg 0
 have c5 := row_cell hpg1 (j := 5) rfl
 have c6 := row_cell hpg1 (j := 6) rfl
 have hlk := h.lk
 have hltg := row_lt h.pg
 clear h hd1 hpg1 hf1 hz1
 obtain ⟨lk, mb, tvg, ver, dk, cl⟩ := g
 dsimp only at hlk hdb
 subst hlk
 subst hdb
 dsimp only at hc
 subst hc
 generalize OpP w B gb _ m lo xs now R Q _ (DStep xs D i) = PP at *
 clear hi hM HW
 go_enter_defers Tryz.func28, Tryz.ntmps28
 go_wp2_with (first | (go_at_call 51; refine (lock_free Tryz.muLib ⟨gb, 0, none⟩ _ h0 f0).mono ?_; rintro e w1 ⟨rfl, hw1⟩; subst w1) | (go_at_call 62; refine HHW.out.mono ?_; rintro e w2 ⟨rfl, hw2⟩; subst w2) | (go_at_call 63; refine (Calls.mono HST.out) ?_; rintro e w3 ⟨rfl, k0, z0, HP⟩))
 refine leaves_cons (f := 52) (args := #[.pointer (some ⟨gb, 0, none⟩)]) (by simp) (by simp [go_sem]) ?_
 refine (unlock_deferred Tryz.muLib ⟨gb, 0, none⟩ .returning _ k0 z0).mono ?_
 rintro e u' w6 ⟨rfl, rfl, rfl⟩
 exact ⟨.int .i64 0, by simp [results, Tryz.results28, go_sem], rfl, HP.out⟩
theorem gStep_closed {w : World} {B gb : Nat} {g : Pg} {m : List (Value × Value)} {lo : Nat} {xs now : List ByteArray} {R Q : Nat -> Prop} {D : Dk} (h : KD w B gb g m lo xs now R Q D) (hc : g.cl = true) (i : Int) :
  Calls Tryz.prog 28 #[.pointer (some ⟨gb, 0, none⟩), .int .i64 i] w fun e w' => e = .returned (.int .i64 7) /\ OpP w B gb g m lo xs now R Q g.cl (fun D' => D' = D) w' := by
 obtain ⟨db, tv, wb, ls, hdb, hd1, hpg1, -, -, hf1, hz1⟩ := h.lockd
 obtain ⟨hsame, hpg⟩ := h.same (Below.refl _ _) (Rel := fun D' => D' = D) rfl
 have k0 := row_cell hpg (j := 0) rfl
 have z0 := row_frozen hpg 0
 have HP : Hid (OpP w B gb g m lo xs now R Q g.cl (fun D' => D' = D) ((w.setCell ⟨gb, 0, none⟩ (.int .i32 1)).setCell ⟨gb, 0, none⟩ (.int .i32 0))) := hsame
 clear hsame hpg
 have h0 := row_cell h.pg (j := 0) rfl
 have f0 := row_frozen h.pg 0
 have c5 := row_cell hpg1 (j := 5) rfl
 have c6 := row_cell hpg1 (j := 6) rfl
 have hlk := h.lk
 have hltg := row_lt h.pg
 clear h hd1 hpg1 hf1 hz1
 obtain ⟨lk, mb, tvg, ver, dk, cl⟩ := g
 dsimp only at hlk hdb
 subst hlk
 subst hdb
 dsimp only at hc
 subst hc
 generalize OpP w B gb _ m lo xs now R Q _ (fun D' => D' = D) = PP at *
 go_enter_defers Tryz.func28, Tryz.ntmps28
 go_wp2_with (first | (go_at_call 51; refine (lock_free Tryz.muLib ⟨gb, 0, none⟩ _ h0 f0).mono ?_; rintro e w1 ⟨rfl, hw1⟩; subst w1))
 refine leaves_cons (f := 52) (args := #[.pointer (some ⟨gb, 0, none⟩)]) (by simp) (by simp [go_sem]) ?_
 refine (unlock_deferred Tryz.muLib ⟨gb, 0, none⟩ .returning _ k0 z0).mono ?_
 rintro e u' w6 ⟨rfl, rfl, rfl⟩
 exact ⟨.int .i64 7, by simp [results, Tryz.results28, go_sem], rfl, HP.out⟩
theorem gTick_ok {w : World} {B gb : Nat} {g : Pg} {m : List (Value × Value)} {lo : Nat} {xs now : List ByteArray} {R Q : Nat -> Prop} {D : Dk} (h : KD w B gb g m lo xs now R Q D) (hc : g.cl = false) :
  Calls Tryz.prog 31 #[.pointer (some ⟨gb, 0, none⟩)] w fun e w' => e = .returned (.tuple #[]) /\ OpP w B gb g m lo xs now R Q g.cl (fun D' => D' = tickD D) w' := by
 obtain ⟨db, tv, wb, ls, hdb, hd1, hpg1, -, -, hf1, hz1⟩ := h.lockd
 have hM := h.dw
 have HST : Hid (Calls Tryz.prog 66 #[.pointer (some ⟨db, 0, none⟩)] (w.setCell ⟨gb, 0, none⟩ (.int .i32 1)) fun e w2 => e = .returned (.tuple #[]) /\ w2.cell? ⟨gb, 0, none⟩ = some (.int .i32 1) /\ w2.frozen? ⟨gb, 0, none⟩ = false /\ Hid (OpP w B gb g m lo xs now R Q g.cl (fun D' => D' = tickD D) (w2.setCell ⟨gb, 0, none⟩ (.int .i32 0)))) := by
  refine (dkTick_any hd1).mono ?_
  rintro e w2 ⟨rfl, hf, hz, ls', hD⟩
  exact ⟨rfl, h.after hdb hf hD (dismissD_w _) (fun k e => Or.inl e) rfl⟩
 have h0 := row_cell h.pg (j := 0) rfl
 have f0 := row_frozen h.pg 0
 have c5 := row_cell hpg1 (j := 5) rfl
 have c6 := row_cell hpg1 (j := 6) rfl
 have hlk := h.lk
 have hltg := row_lt h.pg
 clear h hd1 hpg1 hf1 hz1
 obtain ⟨lk, mb, tvg, ver, dk, cl⟩ := g
 dsimp only at hlk hdb
 subst hlk
 subst hdb
 dsimp only at hc
 subst hc
 generalize OpP w B gb _ m lo xs now R Q _ (fun D' => D' = tickD D) = PP at *
 clear hM
 go_enter_defers Tryz.func31, Tryz.ntmps31
 go_wp2_with (first | (go_at_call 51; refine (lock_free Tryz.muLib ⟨gb, 0, none⟩ _ h0 f0).mono ?_; rintro e w1 ⟨rfl, hw1⟩; subst w1) | (go_at_call 66; refine (Calls.mono HST.out) ?_; rintro e w3 ⟨rfl, k0, z0, HP⟩))
 refine leaves_cons (f := 52) (args := #[.pointer (some ⟨gb, 0, none⟩)]) (by simp) (by simp [go_sem]) ?_
 refine (unlock_deferred Tryz.muLib ⟨gb, 0, none⟩ .returning _ k0 z0).mono ?_
 rintro e u' w6 ⟨rfl, rfl, rfl⟩
 exact ⟨.tuple #[], by simp [results, Tryz.results31, go_sem], rfl, HP.out⟩
theorem gCancel_any {w : World} {B gb : Nat} {g : Pg} {m : List (Value × Value)} {lo : Nat} {xs now : List ByteArray} {R Q : Nat -> Prop} {D : Dk} (h : KD w B gb g m lo xs now R Q D) (id : Int) :
  Calls Tryz.prog 30 #[.pointer (some ⟨gb, 0, none⟩), .int .i64 id] w fun e w' => e = .returned (.bool (cancelB D id)) /\ OpP w B gb g m lo xs now R Q g.cl (fun D' => D' = cancelD D id) w' := by
 obtain ⟨db, tv, wb, ls, hdb, hd1, hpg1, -, -, hf1, hz1⟩ := h.lockd
 have hM := h.dw
 have HST : Hid (Calls Tryz.prog 65 #[.pointer (some ⟨db, 0, none⟩), .int .i64 id] (w.setCell ⟨gb, 0, none⟩ (.int .i32 1)) fun e w2 => e = .returned (.bool (cancelB D id)) /\ w2.cell? ⟨gb, 0, none⟩ = some (.int .i32 1) /\ w2.frozen? ⟨gb, 0, none⟩ = false /\ Hid (OpP w B gb g m lo xs now R Q g.cl (fun D' => D' = cancelD D id) (w2.setCell ⟨gb, 0, none⟩ (.int .i32 0)))) := by
  refine (dkCancel_any hd1 hM id).mono ?_
  rintro e w2 ⟨rfl, hf, hz, ls', hD⟩
  exact ⟨rfl, h.after hdb hf hD (cancelD_w hM id) (fun k e => Or.inl e) rfl⟩
 have h0 := row_cell h.pg (j := 0) rfl
 have f0 := row_frozen h.pg 0
 have c5 := row_cell hpg1 (j := 5) rfl
 have c6 := row_cell hpg1 (j := 6) rfl
 have hlk := h.lk
 have hltg := row_lt h.pg
 clear h hd1 hpg1 hf1 hz1
 obtain ⟨lk, mb, tvg, ver, dk, cl⟩ := g
 dsimp only at hlk hdb
 subst hlk
 subst hdb
 generalize OpP w B gb _ m lo xs now R Q _ (fun D' => D' = cancelD D id) = PP at *
 generalize cancelB D id = cb at *
 clear hM
 go_enter_defers Tryz.func30, Tryz.ntmps30
 go_wp2_with (first | (go_at_call 51; refine (lock_free Tryz.muLib ⟨gb, 0, none⟩ _ h0 f0).mono ?_; rintro e w1 ⟨rfl, hw1⟩; subst w1) | (go_at_call 65; refine (Calls.mono HST.out) ?_; rintro e w3 ⟨rfl, k0, z0, HP⟩))
 refine leaves_cons (f := 52) (args := #[.pointer (some ⟨gb, 0, none⟩)]) (by simp) (by simp [go_sem]) ?_
 refine (unlock_deferred Tryz.muLib ⟨gb, 0, none⟩ .returning _ k0 z0).mono ?_
 rintro e u' w6 ⟨rfl, rfl, rfl⟩
 exact ⟨.bool cb, by simp [results, Tryz.results30, go_sem], rfl, HP.out⟩
theorem gClose_any {w : World} {B gb : Nat} {g : Pg} {m : List (Value × Value)} {lo : Nat} {xs now : List ByteArray} {R Q : Nat -> Prop} {D : Dk} (h : KD w B gb g m lo xs now R Q D) :
  Calls Tryz.prog 32 #[.pointer (some ⟨gb, 0, none⟩)] w fun e w' => e = .returned (.tuple #[]) /\ OpP w B gb g m lo xs now R Q true (fun D' => D' = cancelN D D.rs.length) w' := by
 obtain ⟨db, tv, wb, ls, hdb, hd1, hpg1, -, -, hf1, hz1⟩ := h.lockd
 have hM := h.dw
 have HST : Hid (Calls Tryz.prog 67 #[.pointer (some ⟨db, 0, none⟩)] (w.setCell ⟨gb, 0, none⟩ (.int .i32 1)) fun e w2 => e = .returned (.tuple #[]) /\ w2.cell? ⟨gb, 6, none⟩ = some (.bool g.cl) /\ w2.frozen? ⟨gb, 6, none⟩ = false /\ (w2.setCell ⟨gb, 6, none⟩ (.bool true)).cell? ⟨gb, 0, none⟩ = some (.int .i32 1) /\ (w2.setCell ⟨gb, 6, none⟩ (.bool true)).frozen? ⟨gb, 0, none⟩ = false /\ Hid (OpP w B gb g m lo xs now R Q true (fun D' => D' = cancelN D D.rs.length) ((w2.setCell ⟨gb, 6, none⟩ (.bool true)).setCell ⟨gb, 0, none⟩ (.int .i32 0)))) := by
  refine (dkCancelAll_any hd1 hM).mono ?_
  rintro e w2 ⟨rfl, hf, hz, ls', hD⟩
  have hpg2 : PgAt w2 gb { g with lk := 1 } := (hf.block gb (row_lt hpg1) h.gQ).trans hpg1
  have hpg3 : PgAt (w2.setCell ⟨gb, 6, none⟩ (.bool true)) gb { g with lk := 1, cl := true } := row_set hpg2 6 _
  have hf3 : Frm (fun k => k = gb) w2 (w2.setCell ⟨gb, 6, none⟩ (.bool true)) := frm_set _ _ _ _
  refine ⟨rfl, row_cell hpg2 (j := 6) rfl, row_frozen hpg2 6, row_cell hpg3 (j := 0) rfl, row_frozen hpg3 0, ?_⟩
  exact h.done (((hf1.mono fun k _ e => Or.inr e).trans hf fun k _ e => Or.inl e).trans hf3 fun k _ e => Or.inr e) hpg3 hdb (hD.keep hf3.size (fun k hk => hf3.block k (hD.lt k hk) fun e => h.gQ (e ▸ hk)) (fun k hk => hf3.block k (hD.ru.lt k hk) fun e => h.gR (e ▸ hk))) (cancelN_w hM _) (fun k e => Or.inl e) rfl
 have h0 := row_cell h.pg (j := 0) rfl
 have f0 := row_frozen h.pg 0
 have c5 := row_cell hpg1 (j := 5) rfl
 have hlk := h.lk
 have hltg := row_lt h.pg
 clear h hd1 hpg1 hf1 hz1 hM
 obtain ⟨lk, mb, tvg, ver, dk, cl⟩ := g
 dsimp only at hlk hdb
 subst hlk
 subst hdb
 generalize OpP w B gb _ m lo xs now R Q _ (fun D' => D' = cancelN D D.rs.length) = PP at *
 go_enter_defers Tryz.func32, Tryz.ntmps32
 go_wp2_with (first | (go_at_call 51; refine (lock_free Tryz.muLib ⟨gb, 0, none⟩ _ h0 f0).mono ?_; rintro e w1 ⟨rfl, hw1⟩; subst w1) | (go_at_call 67; refine (Calls.mono HST.out) ?_; rintro e w3 ⟨rfl, k6, z6, k0, z0, HP⟩))
 refine leaves_cons (f := 52) (args := #[.pointer (some ⟨gb, 0, none⟩)]) (by simp) (by simp [go_sem]) ?_
 refine (unlock_deferred Tryz.muLib ⟨gb, 0, none⟩ .returning _ k0 z0).mono ?_
 rintro e u' w6 ⟨rfl, rfl, rfl⟩
 exact ⟨.tuple #[], by simp [results, Tryz.results32, go_sem], rfl, HP.out⟩
def GPolP (w : World) (B gb : Nat) (g : Pg) (m : List (Value × Value)) (lo : Nat) (xs now : List ByteArray) (R Q : Nat -> Prop) (D : Dk) (r : Rq) (o : Option Addr) (c : Nat) (w' : World) : Prop :=
 w'.ownsRow w.heap.size 9 1 (.slice o r.us.length c) r.us.length (strV r.us) /\ OpP w B gb g m lo xs now R Q g.cl (fun D' => D' = D) w'
def zeroS : List Value := [.int .i64 0, .int .i64 0, .bool false, .slice none 0 0]
theorem gPoll_any {w : World} {B gb : Nat} {g : Pg} {m : List (Value × Value)} {lo : Nat} {xs now : List ByteArray} {R Q : Nat -> Prop} {D : Dk} (h : KD w B gb g m lo xs now R Q D) (id : Int) :
  Calls Tryz.prog 29 #[.pointer (some ⟨gb, 0, none⟩), .int .i64 id] w fun e w' => ∃ o c, e = .returned (.agg #[.int .i64 (pollR D id).is, .int .i64 (pollR D id).st, .bool (pollR D id).al, .slice o (pollR D id).us.length c]) /\ GPolP w B gb g m lo xs now R Q D (pollR D id) o c w' := by
 have hbZ : Below w.heap.size w (w.alloc (.cells zeroS.toArray 51)) := (Below.refl _ _).alloc (Nat.le_refl _) _
 have hzZ : (w.alloc (.cells zeroS.toArray 51)).heap.size = w.heap.size + 1 := by show (w.heap.push _).size = _; simp
 have hrZ := alloc_new w zeroS 51
 obtain ⟨w0, hw0⟩ : ∃ w0, w.alloc (.cells zeroS.toArray 51) = w0 := ⟨_, rfl⟩
 rw [hw0] at hbZ hzZ hrZ
 have hk0 := h.later hbZ
 obtain ⟨db, tv, wb, ls, hdb, hd1, hpg1, -, -, hf1, hz1⟩ := hk0.lockd
 have hgl := row_lt h.pg
 have hr1 : (w0.setCell ⟨gb, 0, none⟩ (.int .i32 1)).heap[w.heap.size]? = some (.cells zeroS.toArray 51 (0, 0)) := (hf1.block _ (row_lt hrZ) (by omega)).trans hrZ
 generalize hr : pollR D id = r
 have HST : Hid (Calls Tryz.prog 64 #[.pointer (some ⟨db, 0, none⟩), .int .i64 id] (w0.setCell ⟨gb, 0, none⟩ (.int .i32 1)) fun e w2 => ∃ o c, e = .returned (.agg #[.int .i64 r.is, .int .i64 r.st, .bool r.al, .slice o r.us.length c]) /\ Hid (w2.heap[w.heap.size]? = some (.cells zeroS.toArray 51 (0, 0))) /\ Hid (PgAt w2 gb { g with lk := 1 }) /\ Hid (∀ w3, Frm (fun k => k = w.heap.size) w2 w3 -> GPolP w B gb g m lo xs now R Q D r o c (w3.setCell ⟨gb, 0, none⟩ (.int .i32 0)))) := by
  refine (dkState_any hd1 id).mono ?_
  intro e w2 hp
  rw [hr] at hp
  obtain ⟨o, c, rfl, ho, hb⟩ := hp
  have hpg2 := pg_below hpg1 hb
  have hr2 := (hb.block _ (row_lt hr1)).trans hr1
  refine ⟨o, c, rfl, hr2, hpg2, ?_⟩
  intro w3 hf3
  have hpg3 : PgAt w3 gb { g with lk := 1 } := (hf3.block gb (row_lt hpg2) (by omega)).trans hpg2
  have hff : Frm (fun k => Q k \/ k = gb) w w3 := by
   refine (((Frm.of_below hbZ).trans hf1 fun k _ e => Or.inr e).trans (Frm.of_below (X := fun _ => False) hb) fun _ _ e => e.elim).trans hf3 fun k hk e => ?_
   omega
  have hd2 := hd1.below hb
  have hQl := h.lt.1
  have hRl := h.ru.lt
  have hd3 := hd2.keep hf3.size (fun k hk => hf3.block k (hd2.lt k hk) (by have := hQl k hk; omega)) (fun k hk => hf3.block k (hd2.ru.lt k hk) (by have := hRl k hk; omega))
  have hop := h.done (Rel := fun D' => D' = D) hff hpg3 hdb hd3 h.dw (fun k e => Or.inl e) rfl
  refine ⟨?_, hop⟩
  have ho2 : w2.ownsRow (w.heap.size + 1) 9 1 (.slice o r.us.length c) r.us.length (strV r.us) := by rw [← hzZ, ← hz1]; exact ho
  have ho3 : w3.ownsRow (w.heap.size + 1) 9 1 (.slice o r.us.length c) r.us.length (strV r.us) := owns_to ho2 fun k hk => hf3.block k (owns_lt ho2 k hk).1 (by have := (owns_lt ho2 k hk).2.1; omega)
  exact owns_base (ownsSet ho3 (by omega) _ _) (by omega)
 have h0 := row_cell hk0.pg (j := 0) rfl
 have f0 := row_frozen hk0.pg 0
 have c5 := row_cell hpg1 (j := 5) rfl
 have hlk := h.lk
 have hw0' : w.alloc (.cells #[.int .i64 0, .int .i64 0, .bool false, .slice none 0 0] 51) = w0 := hw0
 clear h hd1 hpg1 hf1 hz1 hk0 hbZ hrZ hr1 hr hw0
 obtain ⟨lk, mb, tvg, ver, dk, cl⟩ := g
 dsimp only at hlk hdb
 subst hlk
 subst hdb
 generalize GPolP w B gb _ m lo xs now R Q D r = PP at *
 generalize r.is = is at *
 generalize r.st = st at *
 generalize r.al = al at *
 generalize r.us.length = n at *
 go_enter_defers Tryz.func29, Tryz.ntmps29
 go_wp2_with (first | (go_at_call 51; refine (lock_free Tryz.muLib ⟨gb, 0, none⟩ _ h0 f0).mono ?_; rintro e w1 ⟨rfl, hw1⟩; subst w1) | (go_at_call 64; refine (Calls.mono HST.out) ?_; rintro e w3 ⟨o, c, rfl, HR, HG, HP⟩; have q0 := row_cell HR.out (j := 0) rfl; have q1 := row_cell HR.out (j := 1) rfl; have q2 := row_cell HR.out (j := 2) rfl; have q3 := row_cell HR.out (j := 3) rfl; have z4 := row_frozen HR.out 0; have z5 := row_frozen HR.out 1; have z6 := row_frozen HR.out 2; have z7 := row_frozen HR.out 3))
 have hf4 : Frm (fun k => k = w.heap.size) w3 ((((w3.setCell ⟨w.heap.size, 0, none⟩ (.int .i64 is)).setCell ⟨w.heap.size, 1, none⟩ (.int .i64 st)).setCell ⟨w.heap.size, 2, none⟩ (.bool al)).setCell ⟨w.heap.size, 3, none⟩ (.slice o n c)) := (((frm_set _ _ _ _).trans (frm_set _ _ _ _) fun _ _ e => e).trans (frm_set _ _ _ _) fun _ _ e => e).trans (frm_set _ _ _ _) fun _ _ e => e
 have hG4 : PgAt ((((w3.setCell ⟨w.heap.size, 0, none⟩ (.int .i64 is)).setCell ⟨w.heap.size, 1, none⟩ (.int .i64 st)).setCell ⟨w.heap.size, 2, none⟩ (.bool al)).setCell ⟨w.heap.size, 3, none⟩ (.slice o n c)) gb ⟨1, mb, tvg, ver, .pointer (some ⟨db, 0, none⟩), cl⟩ := (hf4.block gb (row_lt HG.out) (by omega)).trans HG.out
 have hne2 : ¬ w.heap.size = gb := by omega
 have HF : Hid _ := HP.out _ hf4
 refine leaves_cons (f := 52) (args := #[.pointer (some ⟨gb, 0, none⟩)]) (by simp) (by simp [go_sem]) ?_
 refine (unlock_deferred Tryz.muLib ⟨gb, 0, none⟩ .returning _ (row_cell hG4 (j := 0) rfl) (row_frozen hG4 0)).mono ?_
 rintro e u' w6 ⟨rfl, rfl, rfl⟩
 exact ⟨.agg #[.int .i64 is, .int .i64 st, .bool al, .slice o n c], by simp [results, Tryz.results29, go_sem, q0, q1, q2, q3], o, c, rfl, HF.out⟩
def calmQ (Q : Exit -> Act -> World -> Prop) (e : Exit) (a : Act) (w : World) : Prop := match e with
 | .panic _ => False
 | e => Q e a w
theorem wp_calm {P : Program} {c : Code} {Q : Exit -> Act -> World -> Prop} {a : Act} {w : World} (h : Code.wp P c (calmQ Q) a w) : Code.wp P c Q a w :=
 Code.wp_mono (fun e a w hq => by
  cases e with
  | panic c => exact (hq : False).elim
  | normal => exact hq
  | exit id => exact hq
  | goto l => exact hq
  | ret => exact hq
  | outgrown => exact hq) h
theorem calm_normal {Q : Exit -> Act -> World -> Prop} {a : Act} {w : World} (h : Q .normal a w) : calmQ Q .normal a w := h
def tkOf (now : List ByteArray) (s : ByteArray) (bud til : Int) : Tk := ⟨queX s, queY s, now, bud, til⟩
theorem askE_zero {xs : List ByteArray} {s : ByteArray} (h : askE xs s = 0) : queOk s = true /\ hasR xs (queX s) = true := by
 have hok : queOk s = true := by
  cases e : queOk s
  ·have : askE xs s = 4 := if_pos e
   rw [h] at this; cases this
  ·rfl
 refine ⟨hok, ?_⟩
 cases e : hasR xs (queX s)
 ·have : askE xs s = 5 := by unfold askE; rw [hok, e]; rfl
  rw [h] at this; cases this
 ·rfl
theorem sub_chain (HN : Hid NodeC) {w : World} {B gb : Nat} {g : Pg} {m : List (Value × Value)} {lo : Nat} {xs now : List ByteArray} {R Q : Nat -> Prop} {D : Dk} (h : KD w B gb g m lo xs now R Q D) {s : ByteArray} (hs : s.size <= maxLen) (he : askE xs s = 0) {bud til : Int} (hb1 : 1 <= bud) (hb9 : bud <= 1000000000) (ht0 : 0 <= til) (ht9 : til <= 1000000000) (hfu : D.rs.length < 30) {w5 : World} (hb : Below w.heap.size (w.setCell ⟨gb, 0, none⟩ (.int .i32 1)) w5) {db : Nat} (hdb : g.dk = .pointer (some ⟨db, 0, none⟩)) :
  Calls Tryz.prog 61 #[.agg #[.string (queX s).k, .string (queX s).n, .string (queX s).r, .string (queY s).k, .string (queY s).n, .string (queY s).r]] w5 fun e w6 => e = .returned (.agg #[.string (queX s).k, .string (queX s).n, .string (queX s).r, .string (queY s).k, .string (queY s).n, .string (queY s).r]) /\ w6.cell? ⟨gb, 5, none⟩ = some (.pointer (some ⟨db, 0, none⟩)) /\
   Hid (Calls Tryz.prog 60 #[.pointer (some ⟨gb, 0, none⟩), .agg #[.string (queX s).k, .string (queX s).n, .string (queX s).r, .string (queY s).k, .string (queY s).n, .string (queY s).r], .int .i64 bud, .int .i64 til] w6 fun e w7 => ∃ wkb, e = .returned (.agg #[.string (queX s).k, .string (queX s).n, .string (queX s).r, .string (queY s).k, .string (queY s).n, .string (queY s).r, .pointer (some ⟨wkb, 0, none⟩), .int .i64 bud, .int .i64 til]) /\ w7.cell? ⟨gb, 5, none⟩ = some (.pointer (some ⟨db, 0, none⟩)) /\
    Hid (Calls Tryz.prog 59 #[.pointer (some ⟨db, 0, none⟩), .agg #[.string (queX s).k, .string (queX s).n, .string (queX s).r, .string (queY s).k, .string (queY s).n, .string (queY s).r, .pointer (some ⟨wkb, 0, none⟩), .int .i64 bud, .int .i64 til]] w7 fun e w8 => e = .returned (.int .i64 ((D.rs.length + 1 : Nat) : Int)) /\ w8.cell? ⟨gb, 0, none⟩ = some (.int .i32 1) /\ w8.frozen? ⟨gb, 0, none⟩ = false /\ Hid (OpP w B gb g m lo xs now R Q g.cl (fun D' => D' = takeD D (tkOf now s bud til)) (w8.setCell ⟨gb, 0, none⟩ (.int .i32 0))))) := by
 obtain ⟨hok, hhr⟩ := askE_zero he
 obtain ⟨hsx, hsy⟩ := que_small hok
 have hq := queOk_of hok xs now
 have hgq := h.gate s hs
 obtain ⟨db', tv, wb, ls, hdb', hd1, hpg1, hru1, htv1, hf1, hz1⟩ := h.lockd
 have hdd : db' = db := by
  have e : Value.pointer (some ⟨db', 0, none⟩) = Value.pointer (some ⟨db, 0, none⟩) := hdb'.symm.trans hdb
  simp only [Value.pointer.injEq, Option.some.injEq, Addr.mk.injEq, and_true] at e
  exact e
 subst hdd
 have hb5 : Below (w.setCell ⟨gb, 0, none⟩ (.int .i32 1)).heap.size (w.setCell ⟨gb, 0, none⟩ (.int .i32 1)) w5 := by rw [hz1]; exact hb
 refine (queClone_any (queX s) (queY s) hsx hsy w5).mono ?_
 rintro e w6 ⟨he6, hb56⟩
 have hb6 : Below (w.setCell ⟨gb, 0, none⟩ (.int .i32 1)).heap.size (w.setCell ⟨gb, 0, none⟩ (.int .i32 1)) w6 := hb5.trans (hb56.mono hb5.size)
 have hpg6 := pg_below hpg1 hb6
 have c65 : w6.cell? ⟨gb, 5, none⟩ = some (.pointer (some ⟨db', 0, none⟩)) := by rw [← hdb]; exact row_cell hpg6 (j := 5) rfl
 refine ⟨he6, c65, ?_⟩
 have hru6 : RulesN w6 g.mb xs := ⟨m, lo, (hru1.below hb6).now.1, (hru1.below hb6).now.2⟩
 have htv6 : StrT w6 g.tv now := strT_to htv1 fun k hk => hb6.block k (strT_own htv1 k hk).1
 refine (gTask_any HN hgq.pl (g := { g with lk := 1 }) hpg6 hru6 htv6 hq.ok hq.th hq.rU (y := queY s) bud til).mono ?_
 rintro e w7 ⟨wkb, he7, hb67, O, hwk, hO⟩
 have hb7 : Below (w.setCell ⟨gb, 0, none⟩ (.int .i32 1)).heap.size (w.setCell ⟨gb, 0, none⟩ (.int .i32 1)) w7 := hb6.trans (hb67.mono hb6.size)
 have hpg7 := pg_below hpg1 hb7
 have c75 : w7.cell? ⟨gb, 5, none⟩ = some (.pointer (some ⟨db', 0, none⟩)) := by rw [← hdb]; exact row_cell hpg7 (j := 5) rfl
 refine ⟨wkb, he7, c75, ?_⟩
 have hd7 := hd1.below hb7
 have hs6 : w.heap.size <= w6.heap.size := by rw [← hz1]; exact hb6.size
 have hs7 : w.heap.size <= w7.heap.size := by rw [← hz1]; exact hb7.size
 have hQl := h.lt.1
 have hRl := h.ru.lt
 have hT : TkNew xs g.mb R Q O wkb [queX s] (tkOf now s bud til) w7 := ⟨hwk, by simp, hq.sz, hb1, hb9, ht0, ht9, fun k e q => by have := hO k e; have := hQl k q; omega, fun k r e => by have := hO k e; have := hRl k r; omega⟩
 refine (dkTake_any hd7 hfu hT).mono ?_
 rintro e w8 ⟨he8, hf8, Q', tv', ls', hD8, hQ'⟩
 have hff : Frm Q (w.setCell ⟨gb, 0, none⟩ (.int .i32 1)) w8 := (Frm.of_below hb7).trans hf8 fun _ _ e => e
 refine ⟨he8, h.after hdb hff hD8 ?_ (fun k e => ?_) rfl⟩
 ·intro i j r hi hr
  have hi2 : D.wk[i]? = some (some j) := hi
  have hj := hd1.ok.wj i j hi2
  have hr2 : (D.rs ++ [lateR D.clock (newR (tkOf now s bud til))])[j]? = some r := hr
  rw [List.getElem?_append_left hj] at hr2
  exact h.dw i j r hi2 hr2
 ·rcases hQ' k e with e | e | e
  ·exact Or.inl e
  ·have h1 := hO k e
   exact Or.inr ⟨by omega, Nat.lt_of_lt_of_le (hwk.lt k e) hf8.size⟩
  ·exact Or.inr ⟨by omega, e.2⟩
theorem KD.hasRu {w : World} {B gb : Nat} {g : Pg} {m : List (Value × Value)} {lo : Nat} {xs now : List ByteArray} {R Q : Nat -> Prop} {D : Dk} (h : KD w B gb g m lo xs now R Q D) {s : ByteArray} (hs : s.size <= maxLen) {w1 : World} (hb : Below w.heap.size (w.setCell ⟨gb, 0, none⟩ (.int .i32 1)) w1) :
  Calls Tryz.prog 47 #[.pointer (some ⟨gb, 0, none⟩), .agg #[.string (queX s).k, .string (queX s).n, .string (queX s).r]] w1 fun e w' => e = .returned (.bool (hasR xs (queX s))) /\ Below w1.heap.size w1 w' := by
 obtain ⟨db', tv, wb, ls, hdb', hd1, hpg1, hru1, htv1, hf1, hz1⟩ := h.lockd
 have hb1 : Below (w.setCell ⟨gb, 0, none⟩ (.int .i32 1)).heap.size (w.setCell ⟨gb, 0, none⟩ (.int .i32 1)) w1 := by rw [hz1]; exact hb
 have hO := que_sizesK s hs
 obtain ⟨m', h1, h2, h3⟩ := hasR_found (show RulesN w1 g.mb xs from ⟨m, lo, (hru1.below hb1).now.1, (hru1.below hb1).now.2⟩) (queX s)
 have := hasRule_any gb { g with lk := 1 } m' h2 (queX s).k (queX s).n (queX s).r hO.1 hO.2.2 w1 (pg_below hpg1 hb1) h1
 rw [h3] at this
 exact this
theorem gSubmit_ok (HN : Hid NodeC) {w : World} {B gb : Nat} {g : Pg} {m : List (Value × Value)} {lo : Nat} {xs now : List ByteArray} {R Q : Nat -> Prop} {D : Dk} (h : KD w B gb g m lo xs now R Q D) (hc : g.cl = false) {s : ByteArray} (hs : s.size <= maxLen) (he : askE xs s = 0) {bud til : Int} (hb1 : 1 <= bud) (hb9 : bud <= 1000000000) (ht0 : 0 <= til) (ht9 : til <= 1000000000) (hfu : fullD D = false) :
  Calls Tryz.prog 27 #[.pointer (some ⟨gb, 0, none⟩), .string s, .int .i64 bud, .int .i64 til] w fun e w' => e = .returned (.tuple #[.int .i64 ((D.rs.length + 1 : Nat) : Int), .int .i64 0]) /\ OpP w B gb g m lo xs now R Q g.cl (fun D' => D' = takeD D (tkOf now s bud til)) w' := by
 obtain ⟨db, tv, wb, ls, hdb, hd1, hpg1, hru1, htv1, hf1, hz1⟩ := h.lockd
 have hl30 : D.rs.length < 30 := by
  unfold fullD at hfu
  rw [Bool.or_eq_false_iff] at hfu
  have := of_decide_eq_false hfu.1
  omega
 have hv : askV xs s = .agg #[.string (queX s).k, .string (queX s).n, .string (queX s).r, .string (queY s).k, .string (queY s).n, .string (queY s).r] := if_pos he
 have HW1 : Hid (∀ w1, Calls Tryz.prog 55 #[.int .i64 bud, .int .i64 1, .int .i64 1000000000] w1 fun e w' => e = .returned (.bool true) /\ w' = w1) := by
  intro w1
  have e : (decide (1 <= bud) && decide (bud <= 1000000000)) = true := by rw [Bool.and_eq_true]; exact ⟨decide_eq_true hb1, decide_eq_true hb9⟩
  have := within_any bud 1 1000000000 w1
  rw [e] at this; exact this
 have HW2 : Hid (∀ w1, Calls Tryz.prog 55 #[.int .i64 til, .int .i64 0, .int .i64 1000000000] w1 fun e w' => e = .returned (.bool true) /\ w' = w1) := by
  intro w1
  have e : (decide (0 <= til) && decide (til <= 1000000000)) = true := by rw [Bool.and_eq_true]; exact ⟨decide_eq_true ht0, decide_eq_true ht9⟩
  have := within_any til 0 1000000000 w1
  rw [e] at this; exact this
 have HRD : Hid (Calls Tryz.prog 41 #[.pointer (some ⟨gb, 0, none⟩), .string s] (w.setCell ⟨gb, 0, none⟩ (.int .i32 1)) fun e w2 => e = .returned (.tuple #[.agg #[.string (queX s).k, .string (queX s).n, .string (queX s).r, .string (queY s).k, .string (queY s).n, .string (queY s).r], .int .i64 0]) /\ Below w.heap.size (w.setCell ⟨gb, 0, none⟩ (.int .i32 1)) w2) := by
  have hr := gateRead2 (xs := xs) (b := gb) (w := w.setCell ⟨gb, 0, none⟩ (.int .i32 1)) s (fun w1 hb => h.hasRu hs (by rw [← hz1]; exact hb)) hs
  rw [hv, he] at hr
  refine hr.mono ?_
  rintro e w2 ⟨h1, h2⟩
  exact ⟨h1, by rw [← hz1]; exact h2⟩
 have HFL : Hid (∀ w3, Below w.heap.size (w.setCell ⟨gb, 0, none⟩ (.int .i32 1)) w3 -> Calls Tryz.prog 58 #[.pointer (some ⟨db, 0, none⟩)] w3 fun e w4 => e = .returned (.bool false) /\ Below w3.heap.size w3 w4) := by
  intro w3 hb
  have := dkFull_any (hd1.below (by rw [hz1]; exact hb))
  rw [hfu] at this; exact this
 have HC5 : Hid (∀ w3, Below w.heap.size (w.setCell ⟨gb, 0, none⟩ (.int .i32 1)) w3 -> w3.cell? ⟨gb, 5, none⟩ = some (.pointer (some ⟨db, 0, none⟩))) := by
  intro w3 hb
  rw [← hdb]
  exact row_cell (pg_below hpg1 (by rw [hz1]; exact hb)) (j := 5) rfl
 have HCH : Hid _ := fun w5 hb => sub_chain HN h hs he hb1 hb9 ht0 ht9 hl30 (w5 := w5) hb hdb
 have h0 := row_cell h.pg (j := 0) rfl
 have f0 := row_frozen h.pg 0
 have c6 := row_cell hpg1 (j := 6) rfl
 have hlk := h.lk
 have hltg := row_lt h.pg
 clear h hd1 hpg1 hru1 htv1 hf1 hfu hv
 obtain ⟨lk, mb, tvg, ver, dk, cl⟩ := g
 dsimp only at hlk hdb hc
 subst hlk
 subst hdb
 subst hc
 generalize OpP w B gb _ m lo xs now R Q _ (fun D' => D' = takeD D (tkOf now s bud til)) = PP at *
 generalize D.rs.length = N at *
 generalize queX s = x at *
 generalize queY s = y at *
 clear he hs hb1 hb9 ht0 ht9 HN
 go_enter_defers Tryz.func27, Tryz.ntmps27
 go_wp2_with (first
  | (go_at_call 51; refine (lock_free Tryz.muLib ⟨gb, 0, none⟩ _ h0 f0).mono ?_; rintro e w1 ⟨rfl, hw1⟩; subst w1)
  | (go_at_call 55; refine (HW1.out _).mono ?_; rintro e w2 ⟨rfl, hw2⟩; subst w2; clear HW1)
  | (go_at_call 55; refine (HW2.out _).mono ?_; rintro e w2 ⟨rfl, hw2⟩; subst w2; clear HW2)
  | (go_at_call 41; refine HRD.out.mono ?_; rintro e w2 ⟨rfl, hb2⟩; have hb3 : Below w.heap.size (w.setCell ⟨gb, 0, none⟩ (.int .i32 1)) (w2.alloc (.cells #[.string x.k, .string x.n, .string x.r, .string y.k, .string y.n, .string y.r] 77)) := hb2.alloc (by rw [← hz1]; exact hb2.size) _; have g5 := HC5.out _ hb3; have HF3 : Hid _ := HFL.out _ hb3)
  | (go_at_call 58; refine (Calls.mono HF3.out) ?_; rintro e w4 ⟨rfl, hb4⟩))
 have hb4' : Below w.heap.size (w.setCell ⟨gb, 0, none⟩ (.int .i32 1)) w4 := hb3.trans (hb4.mono (by rw [← hz1]; exact hb3.size))
 have g54 := HC5.out w4 hb4'
 have hq4 : w4.heap[w2.heap.size]? = some (.cells (queL x y).toArray 77 (0, 0)) := (hb4.block _ (by show w2.heap.size < (w2.heap.push _).size; simp)).trans (alloc_new w2 (queL x y) _)
 have l0 : w4.cell? ⟨w2.heap.size, 0, none⟩ = some (.string x.k) := row_cell hq4 (j := 0) rfl
 have l1 : w4.cell? ⟨w2.heap.size, 1, none⟩ = some (.string x.n) := row_cell hq4 (j := 1) rfl
 have l2 : w4.cell? ⟨w2.heap.size, 2, none⟩ = some (.string x.r) := row_cell hq4 (j := 2) rfl
 have l3 : w4.cell? ⟨w2.heap.size, 3, none⟩ = some (.string y.k) := row_cell hq4 (j := 3) rfl
 have l4 : w4.cell? ⟨w2.heap.size, 4, none⟩ = some (.string y.n) := row_cell hq4 (j := 4) rfl
 have l5 : w4.cell? ⟨w2.heap.size, 5, none⟩ = some (.string y.r) := row_cell hq4 (j := 5) rfl
 have HC4 : Hid (∀ w5, Below w4.heap.size w4 w5 -> Below w.heap.size (w.setCell ⟨gb, 0, none⟩ (.int .i32 1)) w5) := fun w5 hb => hb4'.trans (hb.mono (by rw [← hz1]; exact hb4'.size))
 clear HFL HC5 HRD HF3 hb3 hb2 hb4 hb4' hq4 g5
 refine wp_calm ?_
 go_region_with (first
  | (go_at_call 61; refine (Calls.mono (HCH.out _ (HC4.out _ (by repeat (first | exact Below.refl _ _ | refine Below.setCell ?_ (by first | exact Nat.le_refl _ | (simp; done) | (simp; omega)) _ | refine below_drewN ?_ _ | refine Below.drew ?_ | refine Below.alloc ?_ (by first | exact Nat.le_refl _ | (simp; done) | (simp; omega)) _))))) ?_; rintro e w6 ⟨rfl, k6, HTK⟩; clear HCH HC4)
  | (go_at_call 60; refine (Calls.mono HTK.out) ?_; rintro e w7 ⟨wkb, rfl, k7, HTA⟩; clear HTK)
  | (go_at_call 59; refine (Calls.mono HTA.out) ?_; rintro e w8 ⟨rfl, k0, z0, HP⟩; clear HTA))
 all_goals refine calm_normal ?_
 all_goals go_wp2
 all_goals
  refine leaves_cons (f := 52) (args := #[.pointer (some ⟨gb, 0, none⟩)]) (by simp) (by simp [go_sem]) ?_
  refine (unlock_deferred Tryz.muLib ⟨gb, 0, none⟩ .returning _ k0 z0).mono ?_
  rintro e u' w9 ⟨rfl, rfl, rfl⟩
  exact ⟨.tuple #[.int .i64 ((N + 1 : Nat) : Int), .int .i64 0], by simp [results, Tryz.results27, go_sem], rfl, HP.out⟩
theorem gSubmit_closed {w : World} {B gb : Nat} {g : Pg} {m : List (Value × Value)} {lo : Nat} {xs now : List ByteArray} {R Q : Nat -> Prop} {D : Dk} (h : KD w B gb g m lo xs now R Q D) (hc : g.cl = true) (s : ByteArray) (bud til : Int) :
  Calls Tryz.prog 27 #[.pointer (some ⟨gb, 0, none⟩), .string s, .int .i64 bud, .int .i64 til] w fun e w' => e = .returned (.tuple #[.int .i64 0, .int .i64 7]) /\ OpP w B gb g m lo xs now R Q g.cl (fun D' => D' = D) w' := by
 obtain ⟨db, tv, wb, ls, hdb, hd1, hpg1, -, -, hf1, hz1⟩ := h.lockd
 obtain ⟨hsame, hpg⟩ := h.same (Below.refl _ _) (Rel := fun D' => D' = D) rfl
 have k0 := row_cell hpg (j := 0) rfl
 have z0 := row_frozen hpg 0
 have HP : Hid (OpP w B gb g m lo xs now R Q g.cl (fun D' => D' = D) ((w.setCell ⟨gb, 0, none⟩ (.int .i32 1)).setCell ⟨gb, 0, none⟩ (.int .i32 0))) := hsame
 clear hsame hpg
 have h0 := row_cell h.pg (j := 0) rfl
 have f0 := row_frozen h.pg 0
 have c5 := row_cell hpg1 (j := 5) rfl
 have c6 := row_cell hpg1 (j := 6) rfl
 have hlk := h.lk
 have hltg := row_lt h.pg
 clear h hd1 hpg1 hf1 hz1
 obtain ⟨lk, mb, tvg, ver, dk, cl⟩ := g
 dsimp only at hlk hdb
 subst hlk
 subst hdb
 dsimp only at hc
 subst hc
 generalize OpP w B gb _ m lo xs now R Q _ (fun D' => D' = D) = PP at *
 go_enter_defers Tryz.func27, Tryz.ntmps27
 go_wp2_with (first | (go_at_call 51; refine (lock_free Tryz.muLib ⟨gb, 0, none⟩ _ h0 f0).mono ?_; rintro e w1 ⟨rfl, hw1⟩; subst w1))
 refine leaves_cons (f := 52) (args := #[.pointer (some ⟨gb, 0, none⟩)]) (by simp) (by simp [go_sem]) ?_
 refine (unlock_deferred Tryz.muLib ⟨gb, 0, none⟩ .returning _ k0 z0).mono ?_
 rintro e u' w6 ⟨rfl, rfl, rfl⟩
 exact ⟨.tuple #[.int .i64 0, .int .i64 7], by simp [results, Tryz.results27, go_sem], rfl, HP.out⟩
open Go.RowKit Go.Shelf
structure TSt (W : World) (gb : Nat) (n : Int) (now : List ByteArray) (D : Dk) (cl : Bool) (Ls : List (Nat × List Value)) (w : World) : Prop where
 kd : ∃ g m lo R Q, g.cl = cl /\ g.ver <= n /\ KD w W.heap.size gb g m lo krules now R Q D /\ ∀ p ∈ Ls, w.heap[p.1]? = some (.cells p.2.toArray 51 (0, 0)) /\ ¬ Q p.1 /\ ¬ R p.1 /\ p.1 ≠ gb
 below : Below W.heap.size W w
theorem TSt.later {W : World} {gb : Nat} {n : Int} {now : List ByteArray} {D : Dk} {cl : Bool} {Ls : List (Nat × List Value)} {w w' : World} (h : TSt W gb n now D cl Ls w) (hb : Below w.heap.size w w') : TSt W gb n now D cl Ls w' := by
 obtain ⟨g, m, lo, R, Q, h1, h2, h3, h4⟩ := h.kd
 exact ⟨⟨g, m, lo, R, Q, h1, h2, h3.later hb, fun p hp => ⟨(hb.block _ (row_lt (h4 p hp).1)).trans (h4 p hp).1, (h4 p hp).2⟩⟩, h.below.trans (hb.mono h.below.size)⟩
theorem TSt.op {W : World} {gb : Nat} {n : Int} {now : List ByteArray} {D : Dk} {Ls : List (Nat × List Value)} {w w' : World} {g : Pg} {m : List (Value × Value)} {lo : Nat} {R Q : Nat -> Prop} (hn : g.ver <= n) (hk : KD w W.heap.size gb g m lo krules now R Q D) (hl : ∀ p ∈ Ls, w.heap[p.1]? = some (.cells p.2.toArray 51 (0, 0)) /\ ¬ Q p.1 /\ ¬ R p.1 /\ p.1 ≠ gb) (hb : Below W.heap.size W w) {c : Bool} {Rel : Dk -> Prop} (ho : OpP w W.heap.size gb g m lo krules now R Q c Rel w') : ∃ D', Rel D' /\ TSt W gb n now D' c Ls w' := by
 obtain ⟨Q', D', hr, hk', hf, hQ⟩ := ho
 have hgl := row_lt hk.pg
 refine ⟨D', hr, ⟨⟨{ g with cl := c }, m, lo, R, Q', rfl, hn, hk', fun p hp => ?_⟩, ?_⟩⟩
 ·obtain ⟨h1, h2, h2R, h3⟩ := hl p hp
  refine ⟨(hf.block _ (row_lt h1) fun e => ?_).trans h1, fun e => ?_, h2R, h3⟩
  ·rcases e with e | e
   ·exact h2 e
   ·exact h3 e
  ·rcases hQ _ e with e | e
   ·exact h2 e
   ·have := row_lt h1; omega
 ·exact Frm.below hb hf hb.size fun k _ e => by
   rcases e with e | e
   ·exact hk.QB k e
   ·rw [e]; exact hk.gB
theorem TSt.add {W : World} {gb : Nat} {n : Int} {now : List ByteArray} {D : Dk} {cl : Bool} {Ls : List (Nat × List Value)} {w : World} (h : TSt W gb n now D cl Ls w) (vs : List Value) : TSt W gb n now D cl ((w.heap.size, vs) :: Ls) (w.alloc (.cells vs.toArray 51)) := by
 have hb : Below w.heap.size w (w.alloc (.cells vs.toArray 51)) := (Below.refl _ _).alloc (Nat.le_refl _) _
 have h' := h.later hb
 obtain ⟨g, m, lo, R, Q, h1, h2, h3, h4⟩ := h.kd
 refine ⟨⟨g, m, lo, R, Q, h1, h2, h3.later hb, fun p hp => ?_⟩, h'.below⟩
 rcases List.mem_cons.1 hp with e | e
 ·subst e
  refine ⟨alloc_new w vs _, fun e => ?_, fun e => ?_, ?_⟩
  ·have := h3.lt.1 _ e
   exact Nat.lt_irrefl _ this
  ·have := h3.ru.lt _ e
   exact Nat.lt_irrefl _ this
  ·have := row_lt h3.pg
   show w.heap.size ≠ gb
   omega
 ·exact ⟨(hb.block _ (row_lt (h4 p e).1)).trans (h4 p e).1, (h4 p e).2⟩
theorem TSt.get {W : World} {gb : Nat} {n : Int} {now : List ByteArray} {D : Dk} {cl : Bool} {Ls : List (Nat × List Value)} {w : World} (h : TSt W gb n now D cl Ls w) {b : Nat} {vs : List Value} (hp : (b, vs) ∈ Ls) : w.heap[b]? = some (.cells vs.toArray 51 (0, 0)) := by
 obtain ⟨g, m, lo, R, Q, h1, h2, h3, h4⟩ := h.kd
 exact (h4 _ hp).1
theorem TSt.set {W : World} {gb : Nat} {n : Int} {now : List ByteArray} {D : Dk} {cl : Bool} {Ls : List (Nat × List Value)} {w w' : World} (h : TSt W gb n now D cl Ls w) {b : Nat} {vs vs' : List Value} (hp : (b, vs) ∈ Ls) (hb : W.heap.size <= b) (hf : Frm (fun k => k = b) w w') (hv : w'.heap[b]? = some (.cells vs'.toArray 51 (0, 0))) {Ls' : List (Nat × List Value)} (hL : ∀ p ∈ Ls', p = (b, vs') \/ (p ∈ Ls /\ p.1 ≠ b)) : TSt W gb n now D cl Ls' w' := by
 obtain ⟨g, m, lo, R, Q, h1, h2, h3, h4⟩ := h.kd
 obtain ⟨q1, q2, q2R, q3⟩ := h4 _ hp
 have hk : KD w' W.heap.size gb g m lo krules now R Q D := by
  obtain ⟨db, tv, wb, ls, d1, hd⟩ := h3.dk
  refine { h3 with pg := (hf.block _ (row_lt h3.pg) (Ne.symm q3)).trans h3.pg, ru := h3.ru.frm hf fun k hk e => q2R (e ▸ hk), tv := strT_to h3.tv fun k hk => hf.block k (strT_own h3.tv k hk).1 fun e => ?_, dk := ⟨db, tv, wb, ls, d1, hd.keep hf.size (fun k hk => hf.block k (hd.lt k hk) fun e => q2 (e ▸ hk)) (fun k hk => hf.block k (hd.ru.lt k hk) fun e => q2R (e ▸ hk))⟩ }
  obtain ⟨-, cur, h5⟩ := strT_own h3.tv k hk
  have q1' : w.heap[b]? = some (.cells vs.toArray 51 (0, 0)) := q1
  rw [e, q1'] at h5
  injection h5 with h5
  injection h5 with _ h5
  revert h5; decide
 refine ⟨⟨g, m, lo, R, Q, h1, h2, hk, fun p hp' => ?_⟩, Frm.below h.below hf h.below.size fun k _ e => by rw [e]; exact hb⟩
 rcases hL p hp' with e | ⟨e1, e2⟩
 ·subst e; exact ⟨hv, q2, q2R, q3⟩
 ·exact ⟨(hf.block _ (row_lt (h4 p e1).1) e2).trans (h4 p e1).1, (h4 p e1).2⟩
theorem t_open (HN : Hid NodeC) (HW : Hid TWayC) (W : World) (wk : Nat) (qu : Int) (h1 : 1 <= wk) (h2 : wk <= 4) (h3 : 1 <= qu) (h4 : qu <= 6) : Calls Tryz.prog 14 #[.int .i64 wk, .int .i64 qu] W fun e w' => ∃ gb, e = .returned (.pointer (some ⟨gb, 0, none⟩)) /\ TSt W gb 1 know0 (newD wk qu) false [] w' := by
 refine (kOpenD HN HW W wk qu h1 h2 h3 h4).mono ?_
 rintro e w' ⟨gb, g, m, lo, R, Q, rfl, hb, hv, hc, kd⟩
 exact ⟨gb, rfl, ⟨g, m, lo, R, Q, hc, by omega, kd, (fun p hp => by cases hp)⟩, hb⟩
theorem t_submit (HN : Hid NodeC) {W : World} {gb : Nat} {n : Int} {now : List ByteArray} {D : Dk} {Ls : List (Nat × List Value)} {w : World} (h : TSt W gb n now D false Ls w) {s : ByteArray} (hs : s.size <= maxLen) (he : askE krules s = 0) {bud til : Int} (hb1 : 1 <= bud) (hb9 : bud <= 1000000000) (ht0 : 0 <= til) (ht9 : til <= 1000000000) (hfu : fullD D = false) :
  Calls Tryz.prog 27 #[.pointer (some ⟨gb, 0, none⟩), .string s, .int .i64 bud, .int .i64 til] w fun e w' => e = .returned (.tuple #[.int .i64 ((D.rs.length + 1 : Nat) : Int), .int .i64 0]) /\ TSt W gb n now (takeD D (tkOf now s bud til)) false Ls w' := by
 obtain ⟨g, m, lo, R, Q, h1, h2, h3, h4⟩ := h.kd
 refine (gSubmit_ok HN h3 h1 hs he hb1 hb9 ht0 ht9 hfu).mono ?_
 rintro e w' ⟨rfl, ho⟩
 obtain ⟨D', rfl, ht⟩ := TSt.op h2 h3 h4 h.below ho
 rw [h1] at ht
 exact ⟨rfl, ht⟩
theorem t_step (HW : Hid TWayC) {W : World} {gb : Nat} {n : Int} {now : List ByteArray} {D : Dk} {Ls : List (Nat × List Value)} {w : World} (h : TSt W gb n now D false Ls w) {i : Nat} (hi : i < D.wk.length) :
  Calls Tryz.prog 28 #[.pointer (some ⟨gb, 0, none⟩), .int .i64 i] w fun e w' => e = .returned (.int .i64 0) /\ ∃ D', DStep krules D i D' /\ TSt W gb n now D' false Ls w' := by
 obtain ⟨g, m, lo, R, Q, h1, h2, h3, h4⟩ := h.kd
 refine (gStep_ok HW h3 h1 hi).mono ?_
 rintro e w' ⟨rfl, ho⟩
 obtain ⟨D', hr, ht⟩ := TSt.op h2 h3 h4 h.below ho
 rw [h1] at ht
 exact ⟨rfl, D', hr, ht⟩
theorem t_stepc {W : World} {gb : Nat} {n : Int} {now : List ByteArray} {D : Dk} {Ls : List (Nat × List Value)} {w : World} (h : TSt W gb n now D true Ls w) (i : Int) :
  Calls Tryz.prog 28 #[.pointer (some ⟨gb, 0, none⟩), .int .i64 i] w fun e w' => e = .returned (.int .i64 7) /\ TSt W gb n now D true Ls w' := by
 obtain ⟨g, m, lo, R, Q, h1, h2, h3, h4⟩ := h.kd
 refine (gStep_closed h3 h1 i).mono ?_
 rintro e w' ⟨rfl, ho⟩
 obtain ⟨D', rfl, ht⟩ := TSt.op h2 h3 h4 h.below ho
 rw [h1] at ht
 exact ⟨rfl, ht⟩
theorem t_subc {W : World} {gb : Nat} {n : Int} {now : List ByteArray} {D : Dk} {Ls : List (Nat × List Value)} {w : World} (h : TSt W gb n now D true Ls w) (s : ByteArray) (bud til : Int) :
  Calls Tryz.prog 27 #[.pointer (some ⟨gb, 0, none⟩), .string s, .int .i64 bud, .int .i64 til] w fun e w' => e = .returned (.tuple #[.int .i64 0, .int .i64 7]) /\ TSt W gb n now D true Ls w' := by
 obtain ⟨g, m, lo, R, Q, h1, h2, h3, h4⟩ := h.kd
 refine (gSubmit_closed h3 h1 s bud til).mono ?_
 rintro e w' ⟨rfl, ho⟩
 obtain ⟨D', rfl, ht⟩ := TSt.op h2 h3 h4 h.below ho
 rw [h1] at ht
 exact ⟨rfl, ht⟩
theorem t_tick {W : World} {gb : Nat} {n : Int} {now : List ByteArray} {D : Dk} {Ls : List (Nat × List Value)} {w : World} (h : TSt W gb n now D false Ls w) :
  Calls Tryz.prog 31 #[.pointer (some ⟨gb, 0, none⟩)] w fun e w' => e = .returned (.tuple #[]) /\ TSt W gb n now (tickD D) false Ls w' := by
 obtain ⟨g, m, lo, R, Q, h1, h2, h3, h4⟩ := h.kd
 refine (gTick_ok h3 h1).mono ?_
 rintro e w' ⟨rfl, ho⟩
 obtain ⟨D', rfl, ht⟩ := TSt.op h2 h3 h4 h.below ho
 rw [h1] at ht
 exact ⟨rfl, ht⟩
theorem t_cancel {W : World} {gb : Nat} {n : Int} {now : List ByteArray} {D : Dk} {cl : Bool} {Ls : List (Nat × List Value)} {w : World} (h : TSt W gb n now D cl Ls w) (id : Int) :
  Calls Tryz.prog 30 #[.pointer (some ⟨gb, 0, none⟩), .int .i64 id] w fun e w' => e = .returned (.bool (cancelB D id)) /\ TSt W gb n now (cancelD D id) cl Ls w' := by
 obtain ⟨g, m, lo, R, Q, h1, h2, h3, h4⟩ := h.kd
 refine (gCancel_any h3 id).mono ?_
 rintro e w' ⟨rfl, ho⟩
 obtain ⟨D', rfl, ht⟩ := TSt.op h2 h3 h4 h.below ho
 rw [h1] at ht
 exact ⟨rfl, ht⟩
theorem t_close {W : World} {gb : Nat} {n : Int} {now : List ByteArray} {D : Dk} {cl : Bool} {Ls : List (Nat × List Value)} {w : World} (h : TSt W gb n now D cl Ls w) :
  Calls Tryz.prog 32 #[.pointer (some ⟨gb, 0, none⟩)] w fun e w' => e = .returned (.tuple #[]) /\ TSt W gb n now (cancelN D D.rs.length) true Ls w' := by
 obtain ⟨g, m, lo, R, Q, h1, h2, h3, h4⟩ := h.kd
 refine (gClose_any h3).mono ?_
 rintro e w' ⟨rfl, ho⟩
 obtain ⟨D', rfl, ht⟩ := TSt.op h2 h3 h4 h.below ho
 exact ⟨rfl, ht⟩
theorem t_poll {W : World} {gb : Nat} {n : Int} {now : List ByteArray} {D : Dk} {cl : Bool} {Ls : List (Nat × List Value)} {w : World} (h : TSt W gb n now D cl Ls w) (id : Int) :
  Calls Tryz.prog 29 #[.pointer (some ⟨gb, 0, none⟩), .int .i64 id] w fun e w' => ∃ o c, e = .returned (.agg #[.int .i64 (pollR D id).is, .int .i64 (pollR D id).st, .bool (pollR D id).al, .slice o (pollR D id).us.length c]) /\ w'.ownsRow w.heap.size 9 1 (.slice o (pollR D id).us.length c) (pollR D id).us.length (strV (pollR D id).us) /\ w.heap.size <= w'.heap.size /\ TSt W gb n now D cl Ls w' := by
 obtain ⟨g, m, lo, R, Q, h1, h2, h3, h4⟩ := h.kd
 refine (gPoll_any h3 id).mono ?_
 rintro e w' ⟨o, c, rfl, how, ho⟩
 have hsz : w.heap.size <= w'.heap.size := by
  obtain ⟨Q', D', -, -, hf, -⟩ := ho
  exact hf.size
 obtain ⟨D', rfl, ht⟩ := TSt.op h2 h3 h4 h.below ho
 rw [h1] at ht
 exact ⟨o, c, rfl, how, hsz, ht⟩
theorem t_check (HN : Hid NodeC) (HW : Hid TWayC) {W : World} {gb : Nat} {n : Int} {D : Dk} {cl : Bool} {Ls : List (Nat × List Value)} {w : World} (h : TSt W gb n know0 D cl Ls w) :
  Calls Tryz.prog 21 #[.pointer (some ⟨gb, 0, none⟩), .string kq0] w fun e w' => e = .returned (.tuple #[.bool true, .int .i64 0]) /\ TSt W gb n know0 D cl Ls w' := by
 obtain ⟨g, m, lo, R, Q, h1, h2, h3, h4⟩ := h.kd
 refine (check_any HN HW (h3.gate kq0 (by unfold maxLen; decide)) kq0 (by unfold maxLen; decide) (fun h _ => queOk_of h krules know0) (que_sizesK kq0 (by unfold maxLen; decide))).mono ?_
 intro e w' hq
 obtain ⟨rfl, hb⟩ := kq0_check hq
 exact ⟨rfl, h.later hb⟩
def q1B : ByteArray := ⟨#[100, 111, 99, 58, 122, 35, 114, 101, 97, 100, 101, 114]⟩
def q2B : ByteArray := ⟨#[100, 111, 99, 58, 121, 35, 114, 101, 97, 100, 101, 114, 64, 117, 115, 101, 114, 58, 122]⟩
def q3B : ByteArray := ⟨#[100, 111, 99, 58, 120, 35, 101, 100, 105, 116, 111, 114]⟩
theorem q1_ok : askE krules q1B = 0 := by decide +kernel
theorem q2_ok : askE krules q2B = 0 := by decide +kernel
theorem q3_ok : askE krules q3B = 0 := by decide +kernel
theorem q1_x : queX q1B = ⟨docB, zB, readerB⟩ := by decide +kernel
def tD (u : Int) : Dk := takeD (takeD (takeD (newD 2 6) (tkOf know0 q1B 100 u)) (tkOf know0 q2B 100 100)) (tkOf know0 q3B 100 100)
theorem lateR_new {c : Int} {t : Tk} (h : ¬ t.til <= c) : lateR c (newR t) = newR t := lateR_not (t := t) rfl h
theorem tD1_full (u : Int) : fullD (newD 2 6) = false /\ fullD (takeD (newD 2 6) (tkOf know0 q1B 100 u)) = false /\ fullD (takeD (takeD (newD 2 6) (tkOf know0 q1B 100 u)) (tkOf know0 q2B 100 100)) = false := by
 have key : ∀ D : Dk, D.qu = 6 -> D.rs.length <= 2 -> fullD D = false := by
  intro D h1 h2
  unfold fullD
  have := waitN_le D.rs
  rw [h1, Bool.or_eq_false_iff]
  exact ⟨decide_eq_false (by omega), decide_eq_false (by omega)⟩
 exact ⟨key _ rfl (by decide), key _ rfl (by show ([] ++ [_]).length <= 2; simp), key _ rfl (by show (([] ++ [_]) ++ [_]).length <= 2; simp)⟩
theorem tD_rs (u : Int) : (tD u).rs = [lateR 0 (newR (tkOf know0 q1B 100 u)), newR (tkOf know0 q2B 100 100), newR (tkOf know0 q3B 100 100)] := by
 have e2 : lateR 0 (newR (tkOf know0 q2B 100 100)) = newR (tkOf know0 q2B 100 100) := lateR_new (by show ¬ (100 : Int) <= 0; decide)
 have e3 : lateR 0 (newR (tkOf know0 q3B 100 100)) = newR (tkOf know0 q3B 100 100) := lateR_new (by show ¬ (100 : Int) <= 0; decide)
 show [] ++ [lateR 0 (newR (tkOf know0 q1B 100 u))] ++ [lateR 0 (newR (tkOf know0 q2B 100 100))] ++ [lateR 0 (newR (tkOf know0 q3B 100 100))] = _
 rw [e2, e3]; rfl
theorem owner_named : (⟨docB, zB, ownerB⟩ : Nod) ∈ namesN (tsOf know0) (ruleN krules) ⟨docB, zB, readerB⟩ := by decide +kernel
theorem q1_cost : ¬ CostN krules know0 (queX q1B) 1 := by
 rintro ⟨met, h1, h2, h3⟩
 rw [q1_x] at h2
 have a1 := (h2 ⟨docB, zB, readerB⟩).2 Rch.here
 have a2 := (h2 ⟨docB, zB, ownerB⟩).2 (Rch.on Rch.here owner_named)
 obtain ⟨y, hy⟩ : ∃ y, met = [y] := List.length_eq_one_iff.1 h3
 rw [hy, List.mem_singleton] at a1 a2
 rw [← a1] at a2
 revert a2; decide
theorem tD_step {u : Int} (hu : 0 < u) {D' : Dk} (h : DStep krules (tD u) 1 D') : D'.rs = [⟨2, 1, false, [], some (tkOf know0 q1B 100 u)⟩, newR (tkOf know0 q2B 100 100), newR (tkOf know0 q3B 100 100)] /\ D'.clock = 0 := by
 have hrs := tD_rs u
 have e1 : lateR 0 (newR (tkOf know0 q1B 100 u)) = newR (tkOf know0 q1B 100 u) := lateR_new (by show ¬ u <= 0; omega)
 rw [e1] at hrs
 have hwk : (tD u).wk = [none, none] := rfl
 have hbz : ∀ x, busyN (tD u) x = false := by
  intro x; unfold busyN; rw [hwk]; rfl
 have hmay : mayR (tD u) (newR (tkOf know0 q1B 100 u)) = true := by
  unfold mayR
  show (waitsR (newR (tkOf know0 q1B 100 u)) && !busyN (tD u) (tkOf know0 q1B 100 u).x) = true
  rw [hbz]; rfl
 have hg : giveD (tD u) 1 = { tD u with rs := (tD u).rs.set 0 { newR (tkOf know0 q1B 100 u) with is := 2 }, wk := (tD u).wk.set 1 (some 0) } := giveD_some (by rw [hrs]; rfl) hmay (fun k r hk => by omega)
 have hw1 : (tD u).wk[1]? = some none := by rw [hwk]; rfl
 cases h with
 | idle D1 h1 h2 =>
  rw [if_pos hw1, hg] at h1
  rw [h1] at h2
  have h2' : ((tD u).wk.set 1 (some 0))[1]? = some none := h2
  rw [hwk] at h2'
  cases h2'
 | work D1 h1 j h2 r r' t fin hr ht hs =>
  rw [if_pos hw1, hg] at h1
  subst h1
  have h2' : ((tD u).wk.set 1 (some 0))[1]? = some (some j) := h2
  rw [hwk] at h2'
  have hj : j = 0 := by
   injection h2' with h2'
   injection h2' with h2'
   exact h2'.symm
  subst hj
  have hr' : ((tD u).rs.set 0 { newR (tkOf know0 q1B 100 u) with is := 2 })[0]? = some r := hr
  rw [hrs] at hr'
  injection hr' with hr'
  subst hr'
  have ht' : some (tkOf know0 q1B 100 u) = some t := ht
  injection ht' with ht'
  subst ht'
  have hf : fin = false := by
   cases fin with
   | false => rfl
   | true => exact absurd (hs.all rfl) q1_cost
  have hon := hs.on hf (by show ((0 : Nat) : Int) + 1 ≠ 100; decide)
  subst hon
  have key : ∀ A C : Rq, ((tD u).rs.set 0 A).set 0 C = [C, newR (tkOf know0 q2B 100 100), newR (tkOf know0 q3B 100 100)] := by
   intro A C; rw [hrs]; rfl
  exact ⟨key { newR (tkOf know0 q1B 100 u) with is := 2 } ⟨2, 1, false, [], some (tkOf know0 q1B 100 u)⟩, rfl⟩
end Go.Proofs.YtalmoiogbdahcaaGreat
