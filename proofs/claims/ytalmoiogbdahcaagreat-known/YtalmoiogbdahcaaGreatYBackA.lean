import Derived.Test.YtalmoiogbdahcaaGreatYTieM
import Derived.Test.YtalmoiogbdahcaaGreatYTieP
import Derived.RangeFuncNested
import Derived.RangeFuncBound
import Derived.RangeFuncCalls
import Derived.RangeFuncLeaves
import Derived.RangeFuncBox
import Derived.Shelf.Abstract
import Derived.Shelf.RegionOpen
import Derived.WalkKit
import Derived.OwnWalkIn
import Derived.TacticsInMore
import Derived.LoopNIn
import Derived.LoopIn
namespace Go.Proofs.YtalmoiogbdahcaaGreat
set_option maxRecDepth 100000
set_option maxHeartbeats 8000000
open Go.RowKit Go.Shelf
attribute [local go_sem] Oper.semAt_some
theorem least_ex {p : Nat -> Prop} (h : ∃ n, p n) : ∃ n, p n /\ ∀ m, p m -> n <= m := by
 obtain ⟨n, hn⟩ := h
 induction n using Nat.strongRecOn with
 | _ n ih =>
  by_cases hm : ∃ m, m < n /\ p m
  ·obtain ⟨m, hlt, hpm⟩ := hm
   exact ih m hlt hpm
  ·exact ⟨n, hn, fun m hpm => Nat.le_of_not_lt fun hlt => hm ⟨m, hlt, hpm⟩⟩
theorem wpIn_loop_ghost {F : Fence} {n : Nat} {P : Program} {c : Code} {Q : Exit -> Act -> World -> Prop} {a : Act} {w : World} (I : Nat -> Act -> World -> Prop) (m0 : Nat) (h0 : I m0 a w)
  (round : ∀ m a w, I m a w -> c.wpIn F n P (Exit.then (fun a' w' => ∃ m', m' < m /\ I m' a' w') Q) a w) : (Code.loop c).wpIn F n P Q a w := by
 classical
 refine wpIn_loop (fun a w => ∃ m, I m a w) (fun a w => if h : ∃ m, I m a w then Classical.choose (least_ex h) else 0) ⟨m0, h0⟩ ?_
 intro a w h
 have hm := Classical.choose_spec (least_ex h)
 refine wpIn_mono (round (Classical.choose (least_ex h)) a w hm.1) ?_
 intro e a' w' he
 cases e with
 | normal =>
  obtain ⟨m', hlt, hI⟩ := he
  have h' : ∃ m, I m a' w' := ⟨m', hI⟩
  refine ⟨h', ?_⟩
  rw [dif_pos h', dif_pos h]
  exact Nat.lt_of_le_of_lt ((Classical.choose_spec (least_ex h')).2 m' hI) hlt
 | _ => exact he
def Marks (w : World) (ds : List Deferred) (Ds : List Nat) : Prop := ds = Ds.map (fun D => { target := .collected D, args := #[] }) /\ Ds.Nodup /\ ∀ D ∈ Ds, w.heap[D]? = some (.deferred (some []))
theorem leaves_marks {F : Fence} {n : Nat} {P : Program} {fn : Func} {tmps : Array Value} {R : Ending -> World -> Prop} {B : Nat} : ∀ (Ds : List Nat) (ds : List Deferred) (w : World), Marks w ds Ds -> (∀ D ∈ Ds, B <= D) -> (∀ w', Frm (fun k => B <= k /\ ∃ o : Obj, w.heap[k]? = some o /\ o.isCells = false) w w' -> LeavesIn F n P fn tmps R [] .returning w') -> LeavesInM F n P fn tmps R ds .returning w := by
 intro Ds
 induction Ds with
 | nil =>
  intro ds w h _ hR
  obtain ⟨e, -, -⟩ := h
  rw [e]
  exact hR w (Frm.refl _ _)
 | cons D Ds ih =>
  intro ds w h hB hR
  obtain ⟨e, hn, hd⟩ := h
  rw [List.nodup_cons] at hn
  have h1 := hd D (by simp)
  rw [e, List.map_cons]
  refine ⟨by simp, .inl ⟨D, _, rfl, run_takeDeferred h1, ?_⟩⟩
  refine ih _ _ ⟨rfl, hn.2, fun D' hD' => ?_⟩ (fun D' hD' => hB D' (by simp [hD'])) fun w' hf => ?_
  ·rw [World.putObj_heap_other (by intro e2; rw [e2] at hD'; exact hn.1 hD')]
   exact hd D' (by simp [hD'])
  ·refine hR w' (Frm.trans (b := w.putObj D (.deferred none)) ?_ hf fun j hj he => ?_)
   ·refine ⟨rfl, rfl, rfl, by simp [World.putObj], fun k _ hx => World.putObj_heap_other ?_⟩
    intro e2
    exact hx ⟨by rw [e2]; exact hB D (by simp), _, by rw [e2]; exact h1, rfl⟩
   ·obtain ⟨h2, o, h3, h4⟩ := he
    by_cases e2 : j = D
    ·exact ⟨h2, _, by rw [e2]; exact h1, rfl⟩
    ·rw [World.putObj_heap_other e2] at h3
     exact ⟨h2, o, h3, h4⟩
def KeepB (Bs b : Nat) (W W' : World) : Prop := W'.heap[Bs]? = W.heap[Bs]? /\ W'.heap[b]? = W.heap[b]?
theorem KeepB.t {Bs b : Nat} {A B C : World} (h : KeepB Bs b A B) (k : KeepB Bs b B C) : KeepB Bs b A C := ⟨k.1.trans h.1, k.2.trans h.2⟩
theorem backward_in (F : Fence) (n : Nat) (h1 : F.fn 176) (hro : F.round = none) (a : Option Addr) (len cap : Nat) (w : World) :
  CallsIn F n Tryz.prog 176 #[.slice a len cap] w fun e w' => e = .returned (.func (.func 202) #[] #[.pointer (some ⟨w.heap.size, 0, none⟩)]) /\ w' = w.alloc (.cells #[.slice a len cap] 170) := by
 refine callsIn_of_wp Tryz.func176 rfl h1 ?_ hro
 simp only [Tryz.ntmps176, List.size_toArray, List.length_cons, List.length_nil, Nat.reduceAdd, Nat.reduceSub, Array.replicate_succ, Array.replicate_zero, List.push_toArray, List.append_toArray, List.nil_append, List.cons_append]
 gi_wp2
 go_ret
 exact ⟨rfl, rfl⟩
abbrev Ix (us : List Value) : Type := { i : Nat // i < us.length }
def encB (us : List Value) (i : Ix us) : Array Value := #[.int .i64 (i.1 : Int), us[i.1]'i.2]
theorem backward1_in (F : Fence) (n : Nat) (h7 : F.fn 202) (hro : F.round = none) (hn : 1 <= n) (l Bs b cap : Nat) (us : List Value) (hus : us.length <= 100000000) (J Jx : List (Ix us) -> World -> Prop)
  (hY : ∀ pre x W, J pre W -> pre.length < us.length -> YieldAt F (n - 1) Tryz.prog l (encB us x) W fun e W' =>
    (e = .returned (.bool true) /\ J (pre ++ [x]) W' /\ KeepB Bs b W W') \/ (e = .returned (.bool false) /\ Jx (pre ++ [x]) W'))
  (W : World) (hBs : W.cell? ⟨Bs, 0, none⟩ = some (.slice (some ⟨b, 0, none⟩) us.length cap)) (hc : ∀ j u, us[j]? = some u -> W.cell? ⟨b, j, none⟩ = some u) (h0 : J [] W) :
  CallsIn F n Tryz.prog 202 #[.func (.yield l) #[] #[], .pointer (some ⟨Bs, 0, none⟩)] W fun e W' => (∃ v, e = .returned v) /\
   ((∃ ys : List (Ix us), (∀ i, i ∈ ys) /\ J ys W') \/ (∃ pre, Jx pre W')) := by
 refine callsIn_of_wp Tryz.func202 rfl h7 ?_ hro
 simp only [Tryz.ntmps202, List.size_toArray, List.length_cons, List.length_nil, Nat.reduceAdd, Nat.reduceSub, Array.replicate_succ, Array.replicate_zero, List.push_toArray, List.append_toArray, List.nil_append, List.cons_append]
 gi_wp2
 gi_loopw [3] (fun i wr => ∃ (k : Nat) (pre : List (Ix us)), k <= us.length /\ i = .int .i64 ((us.length : Int) - k - 1) /\ pre.length = k /\ (∀ x : Ix us, us.length - k <= x.1 -> x ∈ pre) /\ J pre wr /\ KeepB Bs b W wr)
  (fun i _ => (intOf i + 1).toNat)
 case atStart => exact ⟨0, [], Nat.zero_le _, by simp, rfl, fun x hx => by have := x.2; omega, h0, rfl, rfl⟩
 case round =>
  obtain ⟨k, pre, hk, rfl, hpl, hall, hJs, hkp⟩ := hrel
  by_cases hlt : k < us.length
  ·obtain ⟨m, hm⟩ : ∃ m, us.length = k + 1 + m := ⟨us.length - (k + 1), by omega⟩
   have hmi : (us.length : Int) - k - 1 = (m : Int) := by omega
   rw [hmi]
   have hml : m < us.length := by omega
   obtain ⟨u, hu⟩ : ∃ u, us[m]? = some u := ⟨_, List.getElem?_eq_getElem hml⟩
   have HALL : Hid ((∀ x : Ix us, us.length - k <= x.1 -> x ∈ pre) /\ KeepB Bs b W wr) := ⟨hall, hkp⟩
   have hb0 : wr.cell? ⟨Bs, 0, none⟩ = some (.slice (some ⟨b, 0, none⟩) us.length cap) := by rw [← hBs]; exact World.cell?_of_block hkp.1
   have hb1 : wr.cell? ⟨b, m, none⟩ = some u := by rw [← hc m u hu]; exact World.cell?_of_block hkp.2
   have huu : us[m]'hml = u := (List.getElem?_eq_some_iff.1 hu).2
   obtain ⟨fn, tmps, assign, body, hy, hR⟩ := hY pre ⟨m, hml⟩ wr hJs (by omega)
   unfold encB at hy
   dsimp only at hy
   rw [huu] at hy
   have HM : Hid (us.length = k + 1 + m) := hm
   clear hm hmi huu hu hkp hall
   gi_wp2
   refine hR.mono ?_
   rintro e W3 (⟨rfl, hJ3, hk3⟩ | ⟨rfl, hJx3⟩)
   ·gi_wp2
    go_roundw
    case rel =>
     refine ⟨k + 1, pre ++ [⟨m, hml⟩], by omega, ?hv, by simp [hpl], ?hall, hJ3, HALL.out.2.t hk3⟩
     case hv => exact congrArg (Value.int .i64) (by have := HM.out; omega)
     case hall =>
      intro x hx
      by_cases e : us.length - k <= x.1
      ·exact List.mem_append_left _ (HALL.out.1 x e)
      ·refine List.mem_append_right _ (List.mem_singleton.2 (Subtype.ext ?_))
       show x.1 = m
       have := HM.out
       omega
    case measure => simp [intOf]
   ·gi_wp2
    refine bodyPost_ret (results_none rfl _ _ _) rfl ?_
    exact ⟨⟨_, rfl⟩, .inr ⟨_, hJx3⟩⟩
  ·obtain rfl : k = us.length := by omega
   gi_wp2
   go_end0
   exact ⟨⟨_, rfl⟩, .inl ⟨pre, fun i => hall i (by omega), hJs⟩⟩
open Go.RowKit
theorem TA.own {U : List ByteArray} {ts : List (Nod × Nod)} {xs : List ByteArray} {lo tb sb : Nat} {f : Nod -> Option Value} {who : Nod -> Nat} {L : TL} {S : TS} {w w' : World} (h : TA U ts xs lo tb sb f who L S w) {X : Nat -> Prop} (hf : Frm X w w') (hx : ∀ k, k < w.heap.size -> X k -> k ∉ [L.mb, L.mt, L.mr, L.mu, L.ms, L.mw] /\ ∃ o : Obj, w.heap[k]? = some o /\ o.isCells = false) : TA U ts xs lo tb sb f who L S w' := by
 have kC : ∀ (k : Nat) (cur : Array Value) (t : TypeId), w.heap[k]? = some (.cells cur t (0, 0)) -> w'.heap[k]? = w.heap[k]? := by
  intro k cur t hk
  refine hf.block k (row_lt hk) fun hxx => ?_
  obtain ⟨-, o, h1, h2⟩ := hx k (row_lt hk) hxx
  rw [hk] at h1; injection h1 with h1; rw [← h1] at h2; cases h2
 have kM : ∀ (k : Nat) (Gd : Value -> Prop) (m : List (Value × Value)), MapAt w Gd k m -> k ∈ [L.mb, L.mt, L.mr, L.mu, L.ms, L.mw] -> w'.heap[k]? = w.heap[k]? := fun k Gd m hk hm => hf.block k hk.lt fun hxx => (hx k hk.lt hxx).1 hm
 have kN : ∀ {α : Type} {enc : α -> Value} {cl : α -> List Value} {Gd : Value -> Prop} {tN tE : TypeId} {size nb mb : Nat} {sv : Value} {vs : List α}, NumAt enc cl Gd tN tE size w lo nb mb sv vs -> mb ∈ [L.mb, L.mt, L.mr, L.mu, L.ms, L.mw] -> NumAt enc cl Gd tN tE size w' lo nb mb sv vs := by
  intro α enc cl Gd tN tE size nb mb sv vs hh h3
  refine ⟨(kC nb _ _ hh.blk).trans hh.blk, hh.map.move (kM mb _ _ hh.map h3), owns_to hh.row fun g hg => ?_, hh.nd, hh.lob, hh.lom⟩
  obtain ⟨-, -, cur, q⟩ := owns_lt hh.row g hg
  exact kC g cur _ q
 obtain ⟨ms, hs1, hs2⟩ := h.t.sub
 obtain ⟨mw, hw1, hw2⟩ := h.t.wh
 refine ⟨⟨(kC tb _ _ h.t.blk).trans h.t.blk, kN h.t.th (by simp), kN h.t.rl (by simp), kN h.t.us (by simp), ⟨ms, hs1.move (kM _ _ _ hs1.map (by simp)), hs2⟩, ⟨mw, hw1.move (kM _ _ _ hw1 (by simp)), hw2⟩, h.t.ok, h.t.maps, h.t.ntu, h.t.stu, h.t.lob, h.t.los, h.t.low⟩, ?_, ?_, Nat.le_trans h.sb hf.size, h.tn⟩
 ·refine h.s.keep hf fun k hk e cur hc => ?_
  obtain ⟨-, o, h1, h2⟩ := hx k (Nat.lt_of_lt_of_le hk h.sb) e
  rw [hc] at h1; injection h1 with h1; rw [← h1] at h2; cases h2
 ·exact h.r.move (fun Gd m hm => kM _ Gd m hm (by simp)) fun g cur hg => kC g cur _ hg
theorem TA.wide {U : List ByteArray} {ts : List (Nod × Nod)} {xs : List ByteArray} {lo tb sb sb' : Nat} {f : Nod -> Option Value} {who : Nod -> Nat} {L : TL} {S : TS} {w : World} (h : TA U ts xs lo tb sb f who L S w) (h1 : sb <= sb') (h2 : sb' <= w.heap.size) : TA U ts xs lo tb sb' f who L S w := ⟨h.t, h.s.size h1, h.r, h2, h.tn⟩
theorem GStep.keepO {U : List ByteArray} {ts : List (Nod × Nod)} {xs : List ByteArray} {lo tb sb : Nat} {f : Nod -> Option Value} {who who' : Nod -> Nat} {L L' : TL} {S S' : TS} {w w' w'' : World} (h : GStep U ts xs lo tb sb f who L S w who' L' S' w') {X : Nat -> Prop} (hf : Frm X w' w'') (hb : ∀ k, k < w.heap.size -> ¬ X k) (hta : TA U ts xs lo tb sb f who' L' S' w'') : GStep U ts xs lo tb sb f who L S w who' L' S' w'' :=
 ⟨hta, h.fr.trans hf fun j hj e => absurd e (hb j hj), h.own, h.loc, h.ths, h.uss, h.pre, rfl⟩
structure NmS (nmb nlo nsb : Nat) (S : TS) (prs : List (Nod × Nod)) (g : Nod -> Option Value) (w : World) : Prop where
 e : ∃ m, EntAt w CxG nmb m /\ SubM S m g
 sa : SubAt w nlo nsb S prs g
theorem NmS.keep {nmb nlo nsb : Nat} {S : TS} {prs : List (Nod × Nod)} {g : Nod -> Option Value} {w w' : World} (h : NmS nmb nlo nsb S prs g w) {X : Nat -> Prop} (hf : Frm X w w') (h1 : ¬ X nmb) (h2 : ∀ k, k < nsb -> X k -> ∀ cur : Array Value, w.heap[k]? ≠ some (.cells cur 136 (0, 0))) : NmS nmb nlo nsb S prs g w' := by
 obtain ⟨m, e1, e2⟩ := h.e
 exact ⟨⟨m, e1.move (hf.block _ e1.lt h1), e2⟩, h.sa.keep hf h2⟩
theorem NmS.le {U : List ByteArray} {nmb nlo nsb : Nat} {S S' : TS} {prs : List (Nod × Nod)} {g : Nod -> Option Value} {w : World} (h : NmS nmb nlo nsb S prs g w) (hl : S.le S') (ok : S'.Ok U) : NmS nmb nlo nsb S' prs g w := by
 obtain ⟨m, e1, e2⟩ := h.e
 exact ⟨⟨m, e1, e2.le hl ok⟩, h.sa.le hl⟩
theorem NmS.gstep {U : List ByteArray} {ts : List (Nod × Nod)} {xs : List ByteArray} {lo tb sb : Nat} {f : Nod -> Option Value} {who who' : Nod -> Nat} {L L' : TL} {S S' : TS} {w w' : World} {nmb nlo nsb : Nat} {prs : List (Nod × Nod)} {g : Nod -> Option Value} (h : NmS nmb nlo nsb S prs g w) (h0 : TA U ts xs lo tb sb f who L S w) (hn : nmb ∉ [L.mb, L.mt, L.mr, L.mu, L.ms, L.mw]) (r : GStep U ts xs lo tb sb f who L S w who' L' S' w') : NmS nmb nlo nsb S' prs g w' := by
 refine (h.keep r.fr ?_ ?_).le r.le r.at'.t.ok
 ·obtain ⟨m, e1, -⟩ := h.e
  intro hx
  rcases hx with hx | hx
  ·have := h0.t.rl.kindM hx e1.map
   exact hn (by rw [this]; simp)
  ·exact hn (by rw [hx]; simp)
 ·intro k _ hx cur hc
  rcases hx with hx | hx
  ·rcases h0.t.rl.kind hx hc with e | e <;> revert e <;> decide
  ·obtain ⟨m, hm, -⟩ := h0.t.wh
   obtain ⟨es, c, q, -⟩ := hm
   rw [hx, q] at hc; injection hc with hc; cases hc
theorem GStep.cells {U : List ByteArray} {ts : List (Nod × Nod)} {xs : List ByteArray} {lo tb sb : Nat} {f : Nod -> Option Value} {who who' : Nod -> Nat} {L L' : TL} {S S' : TS} {w w' : World} (h0 : TA U ts xs lo tb sb f who L S w) (r : GStep U ts xs lo tb sb f who L S w who' L' S' w') {k : Nat} {cur : Array Value} {t : TypeId} (hk : w.heap[k]? = some (.cells cur t (0, 0))) (h1 : t ≠ 223) (h2 : t ≠ 9) : w'.heap[k]? = w.heap[k]? := by
 refine r.fr.block k (row_lt hk) fun hx => ?_
 rcases hx with hx | hx
 ·rcases h0.t.rl.kind hx hk with e | e
  ·exact h1 e
  ·exact h2 e
 ·obtain ⟨m, hm, -⟩ := h0.t.wh
  obtain ⟨es, c, q, -⟩ := hm
  rw [hx, q] at hk; injection hk with hk; cases hk
structure SE where
 U : List ByteArray
 ts : List (Nod × Nod)
 xs : List ByteArray
 lo : Nat
 tb : Nat
 sb : Nat
 f : Nod -> Option Value
 nmb : Nat
 nlo : Nat
 prs : List (Nod × Nod)
 g : Nod -> Option Value
 met : List Nod
 us : List Nod
 B2 : Nat
 B4 : Nat
 maps : List Nat
structure SE.Ok (E : SE) : Prop where
 nm : E.nmb ∉ E.maps
 prs : ∀ x y, (x, y) ∈ E.prs ↔ y ∈ E.met /\ x ∈ namesN E.ts (ruleN E.xs) y
 nd : E.met.Nodup
 closed : ∀ x ∈ E.met, ∀ y ∈ namesN E.ts (ruleN E.xs) x, y ∈ E.met
def tieM (L : TL) : List Nat := [L.mb, L.mt, L.mr, L.mu, L.ms, L.mw]
structure RngI (E : SE) (w0 : World) (who1 : Nod -> Nat) (L1 : TL) (S1 : TS) (B5 nb5 mb5 sz5 : Nat) (ds : List Deferred) (Ds : List Nat) (pend : Nod -> Prop) (who2 : Nod -> Nat) (L2 : TL) (S2 : TS) (nx : List Nod) (sv5 : Value) (W : World) : Prop where
 g : GStep E.U E.ts E.xs E.lo E.tb E.sb E.f who1 L1 S1 w0 who2 L2 S2 W
 mp : tieM L2 = E.maps
 nm : NmS E.nmb E.nlo E.sb S2 E.prs E.g W
 m : MetAt L2 E.sb S2 W sz5 nb5 mb5 sv5 nx
 nmb5 : mb5 ≠ E.nmb
 b2 : W.heap[E.B2]? = some (.cells [Value.pointer (some ⟨E.tb, 0, none⟩)].toArray 81 (0, 0))
 b4 : W.heap[E.B4]? = some (.cells [Value.map (some E.nmb)].toArray 179 (0, 0))
 b5 : W.heap[B5]? = some (.cells [Value.pointer (some ⟨nb5, 0, none⟩)].toArray 134 (0, 0))
 kn : ∀ y ∈ E.met, Kn S2 y
 nxm : ∀ y ∈ nx, y ∈ E.met
 lg : SInv E.ts (ruleN E.xs) E.met E.us who2 (fun y => y ∈ nx \/ pend y)
 gap : gapL who2 E.met <= gapL who1 E.met
 less : nx ≠ [] -> gapL who2 E.met < gapL who1 E.met
 mrk : Marks W ds Ds
 sz : sz5 <= W.heap.size
theorem RngI.told {E : SE} (ok : E.Ok) {w0 : World} {who1 : Nod -> Nat} {L1 : TL} {S1 : TS} {B5 nb5 mb5 sz5 : Nat} {ds : List Deferred} {Ds : List Nat} {pend : Nod -> Prop} {who2 : Nod -> Nat} {L2 : TL} {S2 : TS} {nx : List Nod} {sv5 : Value} {W : World} (h : RngI E w0 who1 L1 S1 B5 nb5 mb5 sz5 ds Ds pend who2 L2 S2 nx sv5 W) {x : Nod} (hx : x ∈ E.met) {L3 : TL} {S3 : TS} {W2 : World}
  (r : GStep E.U E.ts E.xs E.lo E.tb E.sb E.f who2 L2 S2 W (upd who2 x (crW E.ts who2 x (ruleN E.xs x))) L3 S3 W2) :
  (crW E.ts who2 x (ruleN E.xs x) = who2 x -> ∀ pend' : Nod -> Prop, (∀ y, pend y -> y ≠ x -> pend' y) -> RngI E w0 who1 L1 S1 B5 nb5 mb5 sz5 ds Ds pend' (upd who2 x (crW E.ts who2 x (ruleN E.xs x))) L3 S3 nx sv5 W2) /\
  (crW E.ts who2 x (ruleN E.xs x) ≠ who2 x -> gapL (upd who2 x (crW E.ts who2 x (ruleN E.xs x))) E.met < gapL who1 E.met /\ RngI E w0 who1 L1 S1 B5 nb5 mb5 sz5 ds Ds (fun y => (pend y /\ y ≠ x) \/ (y ∈ E.met /\ x ∈ namesN E.ts (ruleN E.xs) y)) (upd who2 x (crW E.ts who2 x (ruleN E.xs x))) L3 S3 nx sv5 W2) := by
 have h0 := h.g.at'
 have hnm : E.nmb ∉ tieM L2 := by rw [h.mp]; exact ok.nm
 have hmp3 : tieM L3 = E.maps := by rw [← h.mp, r.loc]; rfl
 have base : ∀ (pend' : Nod -> Prop), SInv E.ts (ruleN E.xs) E.met E.us (upd who2 x (crW E.ts who2 x (ruleN E.xs x))) (fun y => y ∈ nx \/ pend' y) -> (gapL (upd who2 x (crW E.ts who2 x (ruleN E.xs x))) E.met <= gapL who2 E.met) -> RngI E w0 who1 L1 S1 B5 nb5 mb5 sz5 ds Ds pend' (upd who2 x (crW E.ts who2 x (ruleN E.xs x))) L3 S3 nx sv5 W2 := by
  intro pend' hlg hgap
  refine ⟨h.g.trans r, hmp3, h.nm.gstep h0 hnm r, h.m.gstep h0 r, h.nmb5, ?_, ?_, ?_, fun y hy => (h.kn y hy).le r.le, h.nxm, hlg, Nat.le_trans hgap h.gap, fun hne => Nat.lt_of_le_of_lt hgap (h.less hne), ?_, Nat.le_trans h.sz r.fr.size⟩
  ·rw [r.cells h0 h.b2 (by decide) (by decide)]; exact h.b2
  ·rw [r.cells h0 h.b4 (by decide) (by decide)]; exact h.b4
  ·rw [r.cells h0 h.b5 (by decide) (by decide)]; exact h.b5
  ·obtain ⟨m1, m2, m3⟩ := h.mrk
   refine ⟨m1, m2, fun D hD => ?_⟩
   have hd := m3 D hD
   have hlt : D < W.heap.size := (Array.getElem?_eq_some_iff.1 hd).1
   rw [r.fr.block D hlt (fun hxx => ?_)]
   ·exact hd
   ·rcases hxx with (e | e | e) | e
    ·have := h0.t.rl.blk; rw [← e, hd] at this; injection this with this; cases this
    ·obtain ⟨es, c, q, -⟩ := h0.t.rl.map; rw [← e, hd] at q; injection q with q; cases q
    ·obtain ⟨-, -, cur, q⟩ := owns_lt h0.t.rl.row D e; rw [hd] at q; injection q with q; cases q
    ·obtain ⟨mm, hm, -⟩ := h0.t.wh; obtain ⟨es, c, q, -⟩ := hm; rw [← e, hd] at q; injection q with q; cases q
 have hup : ∀ i, i < 64 -> (who2 x).testBit i = true -> (crW E.ts who2 x (ruleN E.xs x)).testBit i = true := h.lg.up x hx
 have hsm := h.lg.small
 constructor
 ·intro he pend' hp
  refine base pend' (h.lg.next hx (fun y hy hne => ?_) (fun hne => absurd he hne)) ?_
  ·rcases hy with hy | hy
   ·exact Or.inl hy
   ·exact Or.inr (hp y hy hne)
  ·exact (gapL_upd E.met (by rw [he]; exact Nat.le_refl _)).1
 ·intro hne
  have hlt := gapN_lt hup (hsm x) (crW_lt hsm _) hne
  have h2 := gapL_upd (who := who2) (x := x) (c := crW E.ts who2 x (ruleN E.xs x)) E.met (Nat.le_of_lt hlt)
  refine ⟨Nat.lt_of_lt_of_le (h2.2 hx hlt) h.gap, base _ (h.lg.next hx (fun y hy hne' => ?_) (fun _ y hy hn => Or.inr (Or.inr ⟨hy, hn⟩))) h2.1⟩
  rcases hy with hy | hy
  ·exact Or.inl hy
  ·exact Or.inr (Or.inl ⟨hy, hne'⟩)
theorem SInv.mono {ts : List (Nod × Nod)} {rule : Nod -> WayT} {met us : List Nod} {who : Nod -> Nat} {pend pend' : Nod -> Prop} (h : SInv ts rule met us who pend) (hp : ∀ y ∈ met, pend y -> pend' y) : SInv ts rule met us who pend' :=
 ⟨h.small, h.things, h.up, fun x hx => (h.fix x hx).imp id (hp x hx), h.sound, h.nodes⟩
theorem RngI.mono {E : SE} {w0 : World} {who1 : Nod -> Nat} {L1 : TL} {S1 : TS} {B5 nb5 mb5 sz5 : Nat} {ds : List Deferred} {Ds : List Nat} {pend pend' : Nod -> Prop} {who2 : Nod -> Nat} {L2 : TL} {S2 : TS} {nx : List Nod} {sv5 : Value} {W : World} (h : RngI E w0 who1 L1 S1 B5 nb5 mb5 sz5 ds Ds pend who2 L2 S2 nx sv5 W) (hp : ∀ y ∈ E.met, pend y -> y ∈ nx \/ pend' y) : RngI E w0 who1 L1 S1 B5 nb5 mb5 sz5 ds Ds pend' who2 L2 S2 nx sv5 W :=
 ⟨h.g, h.mp, h.nm, h.m, h.nmb5, h.b2, h.b4, h.b5, h.kn, h.nxm, h.lg.mono fun y hy e => e.elim Or.inl (hp y hy), h.gap, h.less, h.mrk, h.sz⟩
theorem RngI.num {E : SE} {w0 : World} {who1 : Nod -> Nat} {L1 : TL} {S1 : TS} {B5 nb5 mb5 sz5 : Nat} {ds : List Deferred} {Ds : List Nat} {pend : Nod -> Prop} {who2 : Nod -> Nat} {L2 : TL} {S2 : TS} {nx : List Nod} {sv5 : Value} {W : World} (h : RngI E w0 who1 L1 S1 B5 nb5 mb5 sz5 ds Ds pend who2 L2 S2 nx sv5 W) (hsz : w0.heap.size <= sz5) (hless : gapL who2 E.met < gapL who1 E.met) {y : Nod} (hy : y ∈ E.met) :
  Calls Tryz.prog 135 #[.pointer (some ⟨nb5, 0, none⟩), cxN S2 y] W fun e W' => (∃ i : Nat, e = .returned (.int .i64 i)) /\ ∃ sv6, RngI E w0 who1 L1 S1 B5 nb5 mb5 sz5 ds Ds pend who2 L2 S2 (addN nx y) sv6 W' /\ Frm (numX nb5 mb5 sv5) W W' := by
 have h0 := h.g.at'
 have hln := met_len h0.t.ok h.m.num.nd h.m.kn
 refine (met_number h0 h.m h.sz (by omega) (h.kn y hy)).mono ?_
 rintro e W' ⟨he, sv6, t', m', hf, ho⟩
 have hkC : ∀ (k : Nat) (cur : Array Value) (t : TypeId), W.heap[k]? = some (.cells cur t (0, 0)) -> t ≠ 172 -> t ≠ 136 -> W'.heap[k]? = W.heap[k]? := by
  intro k cur t hk h1 h2
  refine hf.block k (row_lt hk) fun hx => ?_
  rcases h.m.num.kind hx hk with e | e
  ·exact h1 e
  ·exact h2 e
 refine ⟨he, sv6, ⟨h.g.keepO hf (fun k hk hx => ?_) t', h.mp, h.nm.keep hf (fun hx => ?_) (fun k hk hx cur hc => ?_), m', h.nmb5, ?_, ?_, ?_, h.kn, ?_, h.lg.mono fun y hy e => e.imp (fun e => mem_addN.2 (Or.inl e)) id, h.gap, fun _ => hless, ?_, Nat.le_trans h.sz hf.size⟩, hf⟩
 ·have := (h.m.num.lt hx).2; omega
 ·obtain ⟨m, e1, -⟩ := h.nm.e
  exact h.nmb5 (h.m.num.kindM hx e1.map).symm
 ·rcases hx with e | e | e
  ·have := h.m.num.blk; rw [← e, hc] at this; injection this with this; injection this with _ this; revert this; decide
  ·obtain ⟨es, c, q, -⟩ := h.m.num.map; rw [← e, hc] at q; injection q with q; cases q
  ·have := h.m.svb k e; omega
 ·rw [hkC _ _ _ h.b2 (by decide) (by decide)]; exact h.b2
 ·rw [hkC _ _ _ h.b4 (by decide) (by decide)]; exact h.b4
 ·rw [hkC _ _ _ h.b5 (by decide) (by decide)]; exact h.b5
 ·intro z hz
  rcases mem_addN.1 hz with hz | hz
  ·exact h.nxm z hz
  ·rw [hz]; exact hy
 ·obtain ⟨m1, m2, m3⟩ := h.mrk
  refine ⟨m1, m2, fun D hD => ?_⟩
  have hd := m3 D hD
  rw [hf.block D (Array.getElem?_eq_some_iff.1 hd).1 (fun hx => ?_)]
  ·exact hd
  ·rcases hx with e | e | e
   ·have := h.m.num.blk; rw [← e, hd] at this; injection this with this; cases this
   ·obtain ⟨es, c, q, -⟩ := h.m.num.map; rw [← e, hd] at q; injection q with q; cases q
   ·obtain ⟨-, -, cur, q⟩ := owns_lt h.m.num.row D e; rw [hd] at q; injection q with q; cases q
theorem RngI.own {E : SE} {w0 : World} {who1 : Nod -> Nat} {L1 : TL} {S1 : TS} {B5 nb5 mb5 sz5 : Nat} {ds : List Deferred} {Ds : List Nat} {pend : Nod -> Prop} {who2 : Nod -> Nat} {L2 : TL} {S2 : TS} {nx : List Nod} {sv5 : Value} {W W' : World} (h : RngI E w0 who1 L1 S1 B5 nb5 mb5 sz5 ds Ds pend who2 L2 S2 nx sv5 W) {X : Nat -> Prop} (hf : Frm X W W') {B : Nat} (hX : ∀ k, k < W.heap.size -> X k -> B <= k /\ ∃ o : Obj, W.heap[k]? = some o /\ o.isCells = false)
  (hw0 : w0.heap.size <= B) (hm : ∀ k ∈ E.maps, k < B) (hnm : E.nmb < B) (hmb : mb5 < B) (hD : ∀ D ∈ Ds, D < B) : RngI E w0 who1 L1 S1 B5 nb5 mb5 sz5 ds Ds pend who2 L2 S2 nx sv5 W' := by
 have hkC : ∀ (k : Nat) (cur : Array Value) (t : TypeId), W.heap[k]? = some (.cells cur t (0, 0)) -> ¬ X k := by
  intro k cur t hk hx
  obtain ⟨-, o, h1, h2⟩ := hX k (row_lt hk) hx
  rw [hk] at h1; injection h1 with h1; rw [← h1] at h2; cases h2
 have hcell : ∀ (k : Nat) (cur : Array Value) (t : TypeId), W.heap[k]? = some (.cells cur t (0, 0)) -> W'.heap[k]? = some (.cells cur t (0, 0)) := fun k cur t hk => (hf.block k (row_lt hk) (hkC k cur t hk)).trans hk
 have hta : TA E.U E.ts E.xs E.lo E.tb E.sb E.f who2 L2 S2 W' := h.g.at'.own hf fun k hk hx => ⟨fun hmem => by
  have h1 : k ∈ E.maps := by rw [← h.mp]; exact hmem
  have := hm k h1
  have := (hX k hk hx).1
  omega, (hX k hk hx).2⟩
 refine ⟨h.g.keepO hf (fun k hk hx => ?_) hta, h.mp, h.nm.keep hf (fun hx => ?_) (fun k hk hx cur hc => hkC k cur _ hc hx), h.m.keep hf fun k hk hx => ?_, h.nmb5, hcell _ _ _ h.b2, hcell _ _ _ h.b4, hcell _ _ _ h.b5, h.kn, h.nxm, h.lg, h.gap, h.less, ?_, Nat.le_trans h.sz hf.size⟩
 ·have h1 := h.g.fr.size
  have := (hX k (by omega) hx).1; omega
 ·obtain ⟨m, e1, -⟩ := h.nm.e
  have := (hX _ e1.lt hx).1; omega
 ·rcases hk with e | e | e
  ·rw [e] at hx; exact hkC _ _ _ h.m.num.blk hx
  ·rw [e] at hx
   have := (hX _ h.m.num.map.lt hx).1; omega
  ·obtain ⟨-, -, cur, q⟩ := owns_lt h.m.num.row k e
   exact hkC _ _ _ q hx
 ·obtain ⟨m1, m2, m3⟩ := h.mrk
  refine ⟨m1, m2, fun D hDm => ?_⟩
  have hd := m3 D hDm
  rw [hf.block D (Array.getElem?_eq_some_iff.1 hd).1 (fun hx => ?_)]
  ·exact hd
  ·have := (hX D (Array.getElem?_eq_some_iff.1 hd).1 hx).1
   have := hD D hDm; omega
open Go.RowKit Go.Shelf
attribute [local go_sem] Oper.semAt_some
theorem backward_stops (n : Nat) (hn : 1 <= n) (Bs b cap : Nat) (us : List Value) (hus : us.length <= 100000000) (w : World) (hBs : Bs < w.heap.size) (hb : b < w.heap.size) (h0 : w.cell? ⟨Bs, 0, none⟩ = some (.slice (some ⟨b, 0, none⟩) us.length cap)) (hc : ∀ j u, us[j]? = some u -> w.cell? ⟨b, j, none⟩ = some u) :
  SeqStopsK Fence.wide n Tryz.prog 202 #[.pointer (some ⟨Bs, 0, none⟩)] (encB us) (KeepB Bs b) (fun ys => ∀ i, i ∈ ys) (fun _ => True) us.length w := fun l J Jx W hW _ _ hY hJ0 => by
 refine (backward1_in Fence.wide n trivial rfl hn l Bs b cap us hus J Jx hY W ((hW.cell (p := ⟨Bs, 0, none⟩) hBs).trans h0) (fun j u hj => (hW.cell (p := ⟨b, j, none⟩) hb).trans (hc j u hj)) hJ0).mono ?_
 rintro e W' ⟨he, ⟨ys, h1, h2⟩ | ⟨pre, h1⟩⟩
 ·exact ⟨he, .inl ⟨ys, h1, h2⟩⟩
 ·exact ⟨he, .inr ⟨pre, trivial, h1⟩⟩
structure SetI (E : SE) (wC : World) (who0 : Nod -> Nat) (L0 : TL) (S0 : TS) (cur : List Nod) (o : Option Addr) (ds : List Deferred) (Ds : List Nat) (who1 : Nod -> Nat) (L1 : TL) (S1 : TS) (m : Nat) (W : World) : Prop where
 g : GStep E.U E.ts E.xs E.lo E.tb E.sb E.f who0 L0 S0 wC who1 L1 S1 W
 mp : tieM L1 = E.maps
 nm : NmS E.nmb E.nlo E.sb S1 E.prs E.g W
 b2 : W.heap[E.B2]? = some (.cells [Value.pointer (some ⟨E.tb, 0, none⟩)].toArray 81 (0, 0))
 b4 : W.heap[E.B4]? = some (.cells [Value.map (some E.nmb)].toArray 179 (0, 0))
 row : ∀ (j : Nat) (y : Nod), cur[j]? = some y -> ∃ gg, o = some ⟨gg, 0, none⟩ /\ W.cell? ⟨gg, j, none⟩ = some (cxN S1 y) /\ ∃ cr, W.heap[gg]? = some (.cells cr 136 (0, 0))
 kc : ∀ y ∈ cur, y ∈ E.met
 cl : cur.length <= 32000000
 kn : ∀ y ∈ E.met, Kn S1 y
 lg : SInv E.ts (ruleN E.xs) E.met E.us who1 (· ∈ cur)
 mrk : Marks W ds Ds
 mD : ∀ D ∈ Ds, wC.heap.size <= D
 ms : m = 2 * gapL who1 E.met + (if cur = [] then 0 else 1)
abbrev pendI (cur : List Nod) (us : List Value) (pre : List (Ix us)) (y : Nod) : Prop := ∃ i : Ix us, i ∉ pre /\ cur[i.1]? = some y
theorem SetI.begin {E : SE} {wC : World} {who0 : Nod -> Nat} {L0 : TL} {S0 : TS} {cur : List Nod} {o : Option Addr} {ds : List Deferred} {Ds : List Nat} {who1 : Nod -> Nat} {L1 : TL} {S1 : TS} {m : Nat} {W : World} (h : SetI E wC who0 L0 S0 cur o ds Ds who1 L1 S1 m W) {w2 w4 : World} {B5 nb5 mb5 : Nat} {sv5 : Value}
  (hn : NumCx (cxN S1) w2 W.heap.size nb5 mb5 sv5 []) (hb2 : Below W.heap.size W w2) (hb4 : Below w2.heap.size w2 w4) (hb5 : w4.heap[B5]? = some (.cells [Value.pointer (some ⟨nb5, 0, none⟩)].toArray 134 (0, 0))) :
  RngI E W who1 L1 S1 B5 nb5 mb5 W.heap.size ds Ds (pendI cur (cur.map (cxN S1)) []) who1 L1 S1 [] sv5 w4 := by
 have hb : Below W.heap.size W w4 := hb2.trans (hb4.mono hb2.size)
 have h0 := h.g.at'
 have r := RStep.below h0.t hb
 have hmlt : ∀ k ∈ E.maps, k < W.heap.size := fun k hk => by
  rw [← h.mp] at hk
  exact h0.maps_lt hk
 obtain ⟨m0, e1, e2⟩ := h.nm.e
 refine ⟨GStep.of h0 r, h.mp, ⟨⟨m0, e1.move (hb.block _ e1.lt), e2⟩, h.nm.sa.keep (X := fun _ => False) (Frm.of_below hb) (fun _ _ e => e.elim)⟩, ⟨hn.keep (X := fun _ => False) (Frm.of_below hb4) (fun _ _ e => e), fun y hy => by simp at hy, fun hm => ?_, fun k hk => Nat.le_trans h0.sb (owns_lt hn.row k hk).2.1⟩, ?_, (hb.block _ (row_lt h.b2)).trans h.b2, (hb.block _ (row_lt h.b4)).trans h.b4, hb5, h.kn, fun y hy => by simp at hy, h.lg.mono fun y _ hy => Or.inr ?_, Nat.le_refl _, fun hne => absurd rfl hne, ?_, hb.size⟩
 ·have h1 : mb5 ∈ E.maps := by rw [← h.mp]; exact hm
  have := hmlt mb5 h1
  have := hn.lom; omega
 ·have := e1.lt; have := hn.lom; omega
 ·obtain ⟨i, hi⟩ := List.mem_iff_getElem?.1 hy
  exact ⟨⟨i, by rw [List.length_map]; exact (List.getElem?_eq_some_iff.1 hi).1⟩, by simp, hi⟩
 ·obtain ⟨m1, m2, m3⟩ := h.mrk
  exact ⟨m1, m2, fun D hD => (hb.block D (Array.getElem?_eq_some_iff.1 (m3 D hD)).1).trans (m3 D hD)⟩
theorem SetI.over {E : SE} {wC : World} {who0 : Nod -> Nat} {L0 : TL} {S0 : TS} {cur : List Nod} {o : Option Addr} {ds : List Deferred} {Ds : List Nat} {who1 : Nod -> Nat} {L1 : TL} {S1 : TS} {m : Nat} {W : World} (h : SetI E wC who0 L0 S0 cur o ds Ds who1 L1 S1 m W) (hne : cur ≠ []) {B5 nb5 mb5 : Nat} {pend : Nod -> Prop} {who2 : Nod -> Nat} {L2 : TL} {S2 : TS} {nx : List Nod} {sv5 : Value} {W' : World}
  (hr : RngI E W who1 L1 S1 B5 nb5 mb5 W.heap.size ds Ds pend who2 L2 S2 nx sv5 W') (hp : ∀ y, ¬ pend y) {D : Nat} (hD : W.heap.size <= D) (hK : W'.heap[D]? = some (.deferred (some []))) :
  ∃ o' c' m', sv5 = .slice o' nx.length c' /\ m' < m /\ SetI E wC who0 L0 S0 nx o' ({ target := .collected D, args := #[] } :: ds) (D :: Ds) who2 L2 S2 m' W' := by
 obtain ⟨o', c', hsv⟩ := owns_form hr.m.num.row
 refine ⟨o', c', 2 * gapL who2 E.met + (if nx = [] then 0 else 1), hsv, ?_, h.g.trans hr.g, hr.mp, hr.nm, hr.b2, hr.b4, fun j y hj => ?_, hr.nxm, met_len hr.g.at'.t.ok hr.m.num.nd hr.m.kn, hr.kn, hr.lg.mono fun y _ e => e.elim id fun e => absurd e (hp y), ?_, fun D' hD' => ?_, rfl⟩
 ·rw [h.ms, if_neg hne]
  by_cases e : nx = []
  ·rw [if_pos e]; have := hr.gap; omega
  ·rw [if_neg e]; have := hr.less e; omega
 ·have hlen : 0 < nx.length := by have := (List.getElem?_eq_some_iff.1 hj).1; omega
  obtain ⟨gg, cap, hs2, hc⟩ := owns_cell hr.m.num.row hlen
  rw [hsv] at hs2
  have eo := (Value.slice.inj hs2).1
  have hown : sv5.ownBlock = some gg := by rw [hsv, eo]; rfl
  refine ⟨gg, eo, hc j _ ?_, (owns_lt hr.m.num.row gg hown).2.2⟩
  rw [flat1, List.getElem?_map, hj]; rfl
 ·obtain ⟨m1, m2, m3⟩ := hr.mrk
  refine ⟨by rw [List.map_cons, m1], ?_, fun D' hD' => ?_⟩
  ·rw [List.nodup_cons]
   refine ⟨fun hm => ?_, m2⟩
   obtain ⟨-, -, q3⟩ := h.mrk
   have := (Array.getElem?_eq_some_iff.1 (q3 D hm)).1
   omega
  ·rcases List.mem_cons.1 hD' with e | e
   ·rw [e]; exact hK
   ·exact m3 D' e
 ·rcases List.mem_cons.1 hD' with e | e
  ·rw [e]; exact Nat.le_trans h.g.fr.size hD
  ·exact h.mD D' e
theorem GStep.keepsFrom {E : SE} {who who' : Nod -> Nat} {L L' : TL} {S S' : TS} {W W2 : World} (h0 : TA E.U E.ts E.xs E.lo E.tb E.sb E.f who L S W) (hm : tieM L = E.maps) (r : GStep E.U E.ts E.xs E.lo E.tb E.sb E.f who L S W who' L' S' W2) {B : Nat} (hB : ∀ k ∈ E.maps, k < B) : KeepsFrom B W W2 := by
 refine ⟨r.fr.size, fun k o hk ho hn => ?_⟩
 rw [r.fr.block k (Array.getElem?_eq_some_iff.1 ho).1 (fun hx => ?_)]
 ·exact ho
 ·have hmaps : ∀ j, j ∈ tieM L -> j < B := fun j hj => hB j (by rw [← hm]; exact hj)
  rcases hx with (e | e | e) | e
  ·have := h0.t.rl.blk; rw [← e, ho] at this; injection this with this; rw [this] at hn; cases hn
  ·have := hmaps L.mr (by simp [tieM]); omega
  ·obtain ⟨-, -, cur, q⟩ := owns_lt h0.t.rl.row k e; rw [ho] at q; injection q with q; rw [q] at hn; cases hn
  ·have := hmaps L.mw (by simp [tieM]); omega
theorem num_keepsFrom {α : Type} {enc : α -> Value} {cl : α -> List Value} {Gd : Value -> Prop} {tN tE : TypeId} {size : Nat} {W W' : World} {lo nb mb : Nat} {sv : Value} {vs : List α} (h : NumAt enc cl Gd tN tE size W lo nb mb sv vs) (hf : Frm (numX nb mb sv) W W') {B : Nat} (hB : mb < B) : KeepsFrom B W W' := by
 refine ⟨hf.size, fun k o hk ho hn => ?_⟩
 rw [hf.block k (Array.getElem?_eq_some_iff.1 ho).1 (fun hx => ?_)]
 ·exact ho
 ·rcases hx with e | e | e
  ·have := h.blk; rw [← e, ho] at this; injection this with this; rw [this] at hn; cases hn
  ·omega
  ·obtain ⟨-, -, cur, q⟩ := owns_lt h.row k e; rw [ho] at q; injection q with q; rw [q] at hn; cases hn
theorem NmS.look2 {U : List ByteArray} {nmb nlo nsb : Nat} {S : TS} {prs : List (Nod × Nod)} {g : Nod -> Option Value} {w : World} (h : NmS nmb nlo nsb S prs g w) (ok : S.Ok U) {x : Nod} (kx : Kn S x) :
  ∃ o c, (Instr.lookup 179 (.map (some nmb)) (cxN S x) false).run Tryz.prog w = .ok (.slice o (subsOf prs x).length c) w /\ (subsOf prs x = [] \/ g x = some (.slice o (subsOf prs x).length c)) := by
 obtain ⟨m, h1, h2⟩ := h.e
 have hl := (map_look cx_ok Tryz.underlying179 h1.map (ok.good kx) (Tryz.zeroValue170 w)).2
 rw [h2.2.1 x kx] at hl
 cases hf : g x with
 | none =>
  rw [hf] at hl
  rw [h.sa.no x hf]
  exact ⟨none, 0, hl, Or.inl rfl⟩
 | some v =>
  rw [hf] at hl
  obtain ⟨o, c, hv⟩ := owns_form (h.sa.row x v hf).1
  subst hv
  exact ⟨o, c, hl, Or.inr rfl⟩
theorem NmS.cellAt {nmb nlo nsb : Nat} {S : TS} {prs : List (Nod × Nod)} {g : Nod -> Option Value} {w : World} (h : NmS nmb nlo nsb S prs g w) {x : Nod} {o : Option Addr} {c : Nat} (hg : subsOf prs x = [] \/ g x = some (.slice o (subsOf prs x).length c)) {j : Nat} {y : Nod} (hj : (subsOf prs x)[j]? = some y) : ∃ gg, o = some ⟨gg, 0, none⟩ /\ w.cell? ⟨gg, j, none⟩ = some (cxN S y) := by
 rcases hg with hg | hg
 ·rw [hg] at hj; simp at hj
 ·obtain ⟨r1, -⟩ := h.sa.row x _ hg
  have hcr := owns_cxrow (us := (subsOf prs x).map (cxN S)) (by rw [List.length_map]; exact r1)
  obtain ⟨o', c', he, hc⟩ := hcr
  obtain ⟨gg, e1, e2⟩ := hc j (cxN S y) (by rw [List.getElem?_map, hj]; rfl)
  exact ⟨gg, (Value.slice.inj he).1.trans e1, e2⟩
attribute [local go_sem] Oper.semAt_some
theorem settle_any (HW : Hid TWayC) {U : List ByteArray} {ts : List (Nod × Nod)} {xs : List ByteArray} (cov : Cov U xs) {lo tb sb : Nat} {f : Nod -> Option Value} {who : Nod -> Nat} {L : TL} {S : TS} {w : World} (h : TA U ts xs lo tb sb f who L S w) {rv : Value} {met : List Nod} (hrow : CxRow w rv (met.map (cxN S))) (hk : ∀ y ∈ met, Kn S y) (hnd : met.Nodup) (hnodes : ∀ y ∈ met, y.isTh = false) (hcl : ∀ x ∈ met, ∀ y ∈ namesN ts (ruleN xs) x, y ∈ met) (hcx : ∀ g n c, rv = .slice (some ⟨g, 0, none⟩) n c -> ∃ cur, w.heap[g]? = some (.cells cur 136 (0, 0)))
  (hsm : ∀ y, who y < 2 ^ 64) (hth : ∀ y : Nod, y.isTh = true -> ∀ i, i < 64 -> ((who y).testBit i = true ↔ S.uss[i]? = some y)) (hno : ∀ y : Nod, y.isTh = false -> who y = 0) :
  Calls Tryz.prog 129 #[.pointer (some ⟨tb, 0, none⟩), rv] w fun e w' => e = .returned (.tuple #[]) /\ ∃ who' L' S', GStep U ts xs lo tb sb f who L S w who' L' S' w' /\ (∀ y, who' y < 2 ^ 64) /\ ∀ x ∈ met, ∀ i, i < 64 -> ∀ u, S.uss[i]? = some u -> ((who' x).testBit i = true ↔ Std ts (ruleN xs) u x) := by
 obtain ⟨o, c, rfl, hcell⟩ := hrow
 rw [List.length_map]
 have hml := met_len h.t.ok hnd hk
 have HNM : Hid (∀ w1, Below w.heap.size w w1 -> CallsIn Fence.wide 8 Tryz.prog 175 #[.pointer (some ⟨tb, 0, none⟩), .slice o met.length c] w1 fun e w' => e = .returned (.map (some w1.heap.size)) /\ ∃ g L' S', NmrInv U ts xs lo tb sb f who L S w1 (prK ts xs met met.length) g L' S' w') := by
  intro w1 hb1
  have hrow1 : CxRow w1 (.slice o met.length c) (met.map (cxN S)) := CxRow.below (w := w) ⟨o, c, by rw [List.length_map], hcell⟩ hb1
  exact callsIn_wide.2 (namers_any HW cov (h.below hb1) hrow1 hk hml fun g n' c' e => by
   obtain ⟨cur, hc⟩ := hcx g n' c' (by rw [List.length_map]; exact e)
   exact ⟨cur, (hb1.block g (row_lt hc)).trans hc⟩)
 refine (callsIn_wide (n := 9)).1 ?_
 refine callsIn_of_wp_marks Tryz.func129 rfl trivial ?_ rfl
 simp only [Tryz.ntmps129, List.size_toArray, List.length_cons, List.length_nil, Nat.reduceAdd, Nat.reduceSub, Array.replicate_succ, Array.replicate_zero, List.push_toArray, List.append_toArray, List.nil_append, List.cons_append]
 have htr : ∀ k, Fence.wide.fn k := fun _ => trivial
 have HH : Hid (TA U ts xs lo tb sb f who L S w) := h
 gi_wp2_with (gi_at_call 175; refine (HNM.out _ (by repeat (first | exact Below.refl _ _ | refine Below.setCell ?_ (by first | exact Nat.le_refl _ | (simp; done) | (simp; omega)) _ | refine below_drewN ?_ _ | refine Below.drew ?_ | refine Below.alloc ?_ (by first | exact Nat.le_refl _ | (simp; done) | (simp; omega)) _))).mono ?_; rintro e w1 ⟨rfl, g, L1, S1, hI⟩; have HI : Hid (NmrInv U ts xs lo tb sb f who L S (w.alloc (.cells #[.pointer (some ⟨tb, 0, none⟩)] 81)) (prK ts xs met met.length) g L1 S1 w1) := hI; clear hI)
 have hsA : (w.alloc (.cells #[.pointer (some ⟨tb, 0, none⟩)] 81)).heap.size = w.heap.size + 1 := by show (w.heap.push _).size = _; simp
 have hbA : Below w.heap.size w (w.alloc (.cells #[.pointer (some ⟨tb, 0, none⟩)] 81)) := by repeat (first | exact Below.refl _ _ | refine Below.setCell ?_ (by first | exact Nat.le_refl _ | (simp; done) | (simp; omega)) _ | refine below_drewN ?_ _ | refine Below.drew ?_ | refine Below.alloc ?_ (by first | exact Nat.le_refl _ | (simp; done) | (simp; omega)) _)
 obtain ⟨E, hE⟩ : ∃ E : SE, E = ⟨U, ts, xs, lo, tb, w1.heap.size, f, w.heap.size + 1, w.heap.size + 1, prK ts xs met met.length, g, met, S.uss, w.heap.size, w1.heap.size, tieM L⟩ := ⟨_, rfl⟩
 have HS0 : Hid (SetI E (w1.alloc (.cells #[.map (some (w.heap.size + 1))] 179)) who L1 S1 met o [] [] who L1 S1 (2 * gapL who met + (if met = [] then 0 else 1)) (w1.alloc (.cells #[.map (some (w.heap.size + 1))] 179))) := by
  have hI := HI.out
  have hb1 : Below w1.heap.size w1 (w1.alloc (.cells #[.map (some (w.heap.size + 1))] 179)) := by repeat (first | exact Below.refl _ _ | refine Below.setCell ?_ (by first | exact Nat.le_refl _ | (simp; done) | (simp; omega)) _ | refine below_drewN ?_ _ | refine Below.drew ?_ | refine Below.alloc ?_ (by first | exact Nat.le_refl _ | (simp; done) | (simp; omega)) _)
  have rr := (RStep.below h.t hbA).trans hI.st
  have ta1 : TA U ts xs lo tb w1.heap.size f who L1 S1 (w1.alloc (.cells #[.map (some (w.heap.size + 1))] 179)) := (hI.ta.wide hI.ta.sb (Nat.le_refl _)).below hb1
  obtain ⟨m0, e1, e2⟩ := hI.e
  have hsa := hI.sa
  rw [hsA] at e1 hsa
  have hbx : w1.heap[w.heap.size]? = some (.cells [Value.pointer (some ⟨tb, 0, none⟩)].toArray 81 (0, 0)) := by
   have hn := alloc_new w [Value.pointer (some ⟨tb, 0, none⟩)] 81
   rw [hI.st.kind (h.below hbA).t hn (by decide) (by decide)]
   exact hn
  rw [hE]
  refine ⟨GStep.of ta1 (RStep.below ta1.t (Below.refl _ _)), ?_, ⟨⟨m0, e1.move (hb1.block _ e1.lt), e2⟩, hsa.keep (X := fun _ => False) (Frm.of_below hb1) (fun _ _ e => e.elim)⟩, (hb1.block _ (row_lt hbx)).trans hbx, alloc_new w1 [Value.map (some (w.heap.size + 1))] _, ?_, fun y hy => hy, hml, fun y hy => (hk y hy).le rr.le, ⟨hsm, hth, ?_, ?_, ?_, hnodes⟩, ⟨rfl, List.nodup_nil, fun D hD => by simp at hD⟩, fun D hD => by simp at hD, rfl⟩
  ·rw [rr.loc]; rfl
  ·intro j y hj
   obtain ⟨gg, e3, e4⟩ := hcell j (cxN S y) (by rw [List.getElem?_map, hj]; rfl)
   obtain ⟨cr, hcr⟩ := hcx gg _ c (by rw [e3])
   have h5 : (w1.alloc (.cells #[.map (some (w.heap.size + 1))] 179)).heap[gg]? = w.heap[gg]? := by
    rw [hb1.block gg (Nat.lt_of_lt_of_le (row_lt hcr) rr.fr.size)]
    exact rr.kind h.t hcr (by decide) (by decide)
   refine ⟨gg, e3, ?_, cr, h5.trans hcr⟩
   rw [cxN_le rr.le (hk y (List.mem_of_getElem? hj)), ← e4]
   exact World.cell?_of_block h5
  ·intro x hx i hi hb
   rw [hno x (hnodes x hx)] at hb
   simp at hb
  ·intro x hx; exact Or.inr hx
  ·intro x hx i hi u hu hb
   rw [hno x hx] at hb
   simp at hb
 have HOK : Hid (SE.Ok E) := by
  rw [hE]
  refine ⟨?_, fun x y => ?_, hnd, hcl⟩
  ·intro hm
   have hlt : w.heap.size + 1 < w.heap.size := h.maps_lt hm
   omega
  ·show (x, y) ∈ prK ts xs met met.length ↔ _
   unfold prK
   rw [List.take_of_length_le (Nat.le_refl _), List.mem_flatMap]
   constructor
   ·rintro ⟨z, hz, hm⟩
    obtain ⟨v, hv, e⟩ := List.mem_map.1 hm
    injection e with e1 e2
    subst e1 e2
    exact ⟨hz, hv⟩
   ·rintro ⟨h1, h2⟩
    exact ⟨y, h1, List.mem_map.2 ⟨x, h2, rfl⟩⟩
 have HCOV : Hid (Cov E.U E.xs /\ E.tb = tb /\ E.nmb = w.heap.size + 1 /\ E.B2 = w.heap.size /\ E.B4 = w1.heap.size) := by rw [hE]; exact ⟨cov, rfl, rfl, rfl, rfl⟩
 have HRR : Hid (RStep U lo tb f who L S w L1 S1 (w1.alloc (.cells #[.map (some (w.heap.size + 1))] 179))) := ((RStep.below h.t hbA).trans HI.out.st).trans (RStep.below HI.out.ta.t (by repeat (first | exact Below.refl _ _ | refine Below.setCell ?_ (by first | exact Nat.le_refl _ | (simp; done) | (simp; omega)) _ | refine below_drewN ?_ _ | refine Below.drew ?_ | refine Below.alloc ?_ (by first | exact Nat.le_refl _ | (simp; done) | (simp; omega)) _)))
 clear h hcell hcx hk hnd hcl hnodes hsm hth hno hbA hsA HI HNM
 obtain ⟨wC, hwC⟩ : ∃ wC, w1.alloc (.cells #[.map (some (w.heap.size + 1))] 179) = wC := ⟨_, rfl⟩
 rw [hwC] at HS0 HRR ⊢
 refine wpIn_loop_ghost (fun m a W => ∃ (cur : List Nod) (o1 : Option Addr) (c1 : Nat) (ds : List Deferred) (Ds : List Nat) (who1 : Nod -> Nat) (L2 : TL) (S2 : TS) (u5 u7 u9 u13 u14 u15 u16 u17 u18 u19 u20 u21 u22 u23 u24 u25 u26 u27 u28 u29 u30 u31 u32 u33 u34 u35 u36 u37 u38 u39 u40 : Value), a = { tmps := #[.pointer (some ⟨tb, 0, none⟩), .slice o1 cur.length c1, .pointer (some ⟨w.heap.size, 0, none⟩), undef, .pointer (some ⟨w1.heap.size, 0, none⟩), u5, undef, u7, undef, u9, .pointer (some ⟨tb, 0, none⟩), .slice o met.length c, .map (some (w.heap.size + 1)), u13, u14, u15, u16, u17, u18, u19, u20, u21, u22, u23, u24, u25, u26, u27, u28, u29, u30, u31, u32, u33, u34, u35, u36, u37, u38, u39, u40], defers := ds } /\ SetI E wC who L1 S1 cur o1 ds Ds who1 L2 S2 m W) _ ⟨met, o, c, [], [], who, L1, S1, undef, undef, undef, undef, undef, undef, undef, undef, undef, undef, undef, undef, undef, undef, undef, undef, undef, undef, undef, undef, undef, undef, undef, undef, undef, undef, undef, undef, undef, undef, undef, rfl, HS0.out⟩ ?_
 rintro m a W ⟨cur, o1, c1, ds, Ds, who1, L2, S2, u5, u7, u9, u13, u14, u15, u16, u17, u18, u19, u20, u21, u22, u23, u24, u25, u26, u27, u28, u29, u30, u31, u32, u33, u34, u35, u36, u37, u38, u39, u40, rfl, hI⟩
 have HI : Hid (SetI E wC who L1 S1 cur o1 ds Ds who1 L2 S2 m W) := hI
 have hcl := hI.cl
 clear hI HS0
 by_cases hne : cur = []
 ·subst hne
  dsimp only [List.length_nil]
  gi_wp2
  show LeavesInM Fence.wide 9 Tryz.prog Tryz.f129 _ _ ds .returning W
  refine leaves_marks (B := wC.heap.size) Ds ds W HI.out.mrk HI.out.mD fun w' hf => ?_
  refine ⟨.tuple #[], results_none rfl _ _ _, rfl, who1, L2, S2, ?_, HI.out.lg.small, ?_⟩
  ·have gI := HI.out.g
   have hmp := HI.out.mp
   rw [hE] at gI hmp
   have hml' : ∀ k ∈ tieM L2, k < wC.heap.size := fun k hk => by
    rw [hmp] at hk
    exact Nat.lt_of_lt_of_le (HH.out.maps_lt hk) HRR.out.fr.size
   have taW := gI.at'.own hf fun k hk hx => ⟨fun hm => by have := hml' k hm; have := hx.1; omega, hx.2⟩
   have ta' : TA U ts xs lo tb sb f who1 L2 S2 w' := ⟨taW.t, ⟨fun x v hv => ⟨(taW.s.row x v hv).1, (HH.out.s.row x v hv).2⟩, taW.s.no, taW.s.kn, taW.s.apart⟩, taW.r, Nat.le_trans HH.out.sb (Nat.le_trans HRR.out.fr.size (Nat.le_trans gI.fr.size hf.size)), taW.tn⟩
   have hl1 := HRR.out.loc
   refine ⟨ta', ((HRR.out.fr.mono fun _ _ e => Or.inl e).trans gI.fr (fun j hj e => ?_)).trans hf (fun j hj e => ?_), fun k hk => ?_, by rw [gI.loc, hl1], gI.ths.trans HRR.out.ths, gI.uss.trans HRR.out.uss, HRR.out.pre.trans gI.pre, rfl⟩
   ·rcases e with (e | e | e) | e
    ·rw [hl1] at e; exact Or.inl (Or.inl e)
    ·rw [hl1] at e; exact Or.inl (Or.inr (Or.inl e))
    ·rcases HRR.out.own j e with e | e
     ·exact Or.inl (Or.inr (Or.inr e))
     ·omega
    ·rw [hl1] at e; exact Or.inr e
   ·have := HRR.out.fr.size
    have := e.1; omega
   ·rcases gI.own k hk with e | e
    ·exact HRR.out.own k e
    ·exact Or.inr (Nat.le_trans HRR.out.fr.size e)
  ·have hlg := HI.out.lg
   have hok := HOK.out
   rw [hE] at hlg hok
   intro x hx i hi u hu
   exact hlg.done (fun x _ e => by cases e) hok.closed hx hi hu
 ·obtain ⟨nn, hnn⟩ : ∃ nn, cur.length = nn := ⟨_, rfl⟩
  have hpos : 0 < nn := by rw [← hnn]; exact List.length_pos_iff.2 hne
  have HNN : Hid (cur.length = nn) := hnn
  have HNE : Hid (cur ≠ []) := hne
  rw [hnn] at hcl ⊢
  clear hnn hne
  have HCN : Hid (CallsIn Fence.wide 8 Tryz.prog 85 #[.slice none 0 0] W (CntPost (cxN S2) (fun a => [cxN S2 a]) CxG 172 136 1 W [])) := callsIn_wide.2 (cntCx_nil (cxN S2) W)
  have HBK : Hid (∀ w3, CallsIn Fence.wide 8 Tryz.prog 176 #[.slice o1 nn c1] w3 fun e w' => e = .returned (.func (.func 202) #[] #[.pointer (some ⟨w3.heap.size, 0, none⟩)]) /\ w' = w3.alloc (.cells #[.slice o1 nn c1] 170)) := fun w3 => backward_in Fence.wide 8 trivial rfl o1 nn c1 w3
  gi_wp2_with (first | (gi_at_call 85; refine HCN.out.mono ?_; rintro e w2 ⟨nb5, mb5, sv5, rfl, hn5, hb2⟩; have HN5 : Hid (NumCx (cxN S2) w2 W.heap.size nb5 mb5 sv5 [] /\ Below W.heap.size W w2) := ⟨hn5, hb2⟩; clear hn5 hb2) | (gi_at_call 176; refine (HBK.out _).mono ?_; rintro e w4 ⟨rfl, hw4⟩; subst w4))
  obtain ⟨y0, hy0⟩ : ∃ y0, cur[0]? = some y0 := ⟨_, List.getElem?_eq_getElem (by rw [HNN.out]; exact hpos)⟩
  obtain ⟨b, hob, -, cr, hcr⟩ := HI.out.row 0 y0 hy0
  subst hob
  have hsD : (w2.alloc (.cells #[.pointer (some ⟨nb5, 0, none⟩)] 134)).heap.size = w2.heap.size + 1 := by show (w2.heap.push _).size = _; simp
  have hbD : Below w2.heap.size w2 ((w2.alloc (.cells #[.pointer (some ⟨nb5, 0, none⟩)] 134)).alloc (.cells #[.slice (some ⟨b, 0, none⟩) nn c1] 170)) := by repeat (first | exact Below.refl _ _ | refine Below.setCell ?_ (by first | exact Nat.le_refl _ | (simp; done) | (simp; omega)) _ | refine below_drewN ?_ _ | refine Below.drew ?_ | refine Below.alloc ?_ (by first | exact Nat.le_refl _ | (simp; done) | (simp; omega)) _)
  obtain ⟨w4, hw4⟩ : ∃ w4, (w2.alloc (.cells #[.pointer (some ⟨nb5, 0, none⟩)] 134)).alloc (.cells #[.slice (some ⟨b, 0, none⟩) nn c1] 170) = w4 := ⟨_, rfl⟩
  have hB5 : w4.heap[w2.heap.size]? = some (.cells [Value.pointer (some ⟨nb5, 0, none⟩)].toArray 134 (0, 0)) := by rw [← hw4]; exact alloc_row (alloc_new w2 [Value.pointer (some ⟨nb5, 0, none⟩)] _) _
  have hBs : w4.heap[w2.heap.size + 1]? = some (.cells [Value.slice (some ⟨b, 0, none⟩) nn c1].toArray 170 (0, 0)) := by rw [← hw4, ← hsD]; exact alloc_new _ [Value.slice (some ⟨b, 0, none⟩) nn c1] _
  have hs4 : w4.heap.size = w2.heap.size + 2 := by rw [← hw4]; show ((w2.alloc _).heap.push _).size = _; rw [Array.size_push, hsD]
  rw [hw4] at hbD ⊢
  have hbW : Below W.heap.size W w4 := HN5.out.2.trans (hbD.mono HN5.out.2.size)
  have hbb : b < W.heap.size := row_lt hcr
  have hW4 : W.heap.size <= w2.heap.size := HN5.out.2.size
  have HR0 : Hid (RngI E W who1 L2 S2 w2.heap.size nb5 mb5 W.heap.size ds Ds (pendI cur (cur.map (cxN S2)) []) who1 L2 S2 [] sv5 w4) := HI.out.begin HN5.out.1 HN5.out.2 hbD hB5
  have hmp5 : mb5 < w4.heap.size := HR0.out.m.num.map.lt
  have hmaps : ∀ k ∈ E.maps, k < w4.heap.size := fun k hk => by
   have h1 : k < W.heap.size := by rw [← HI.out.mp] at hk; exact HI.out.g.at'.maps_lt hk
   have := hbW.size; omega
  have hnm4 : E.nmb < w4.heap.size := by
   obtain ⟨m0, e1, -⟩ := HR0.out.nm.e
   exact e1.lt
  have hDs4 : ∀ D ∈ Ds, D < w4.heap.size := fun D hD => (Array.getElem?_eq_some_iff.1 (HR0.out.mrk.2.2 D hD)).1
  have HMISC : Hid ((∀ k ∈ E.maps, k < w4.heap.size) /\ mb5 < w4.heap.size /\ b < W.heap.size /\ W.heap.size <= w4.heap.size) := ⟨hmaps, hmp5, hbb, hbW.size⟩
  obtain ⟨us, hus⟩ : ∃ us, cur.map (cxN S2) = us := ⟨_, rfl⟩
  have hul : us.length = nn := by rw [← hus, List.length_map, HNN.out]
  have hug : ∀ (j : Nat) (y : Nod), cur[j]? = some y -> us[j]? = some (cxN S2 y) := fun j y hj => by rw [← hus, List.getElem?_map, hj]; rfl
  have hgu : ∀ (j : Nat) (u : Value), us[j]? = some u -> ∃ y, cur[j]? = some y /\ u = cxN S2 y := fun j u hj => by
   rw [← hus, List.getElem?_map, Option.map_eq_some_iff] at hj
   obtain ⟨y, hy, e⟩ := hj
   exact ⟨y, hy, e.symm⟩
  rw [hus] at HR0
  clear hus
  have HBB : Hid (∀ W', W'.heap[w2.heap.size + 1]? = some (.cells [Value.slice (some ⟨b, 0, none⟩) nn c1].toArray 170 (0, 0)) /\ (∃ cr, W'.heap[b]? = some (.cells cr 136 (0, 0))) -> ∀ W2, (∀ (k : Nat) (cr : Array Value) (t : TypeId), W'.heap[k]? = some (.cells cr t (0, 0)) -> (t = 136 /\ k < W.heap.size) \/ t = 170 -> W2.heap[k]? = W'.heap[k]?) -> KeepB (w2.heap.size + 1) b W' W2 /\ W2.heap[w2.heap.size + 1]? = some (.cells [Value.slice (some ⟨b, 0, none⟩) nn c1].toArray 170 (0, 0)) /\ (∃ cr, W2.heap[b]? = some (.cells cr 136 (0, 0)))) := by
   rintro W' ⟨h1, cr, h2⟩ W2 hk
   have e1 := hk _ _ _ h1 (Or.inr rfl)
   have e2 := hk _ _ _ h2 (Or.inl ⟨rfl, hbb⟩)
   exact ⟨⟨e1, e2⟩, e1.trans h1, cr, e2.trans h2⟩
  refine wpIn_rangeFunc_ownG rfl (by decide) (gf := 202) (lb := #[.pointer (some ⟨w2.heap.size + 1, 0, none⟩)]) rfl trivial (enters_of Tryz.func202 (by kernel_rfl) rfl)
   (backward_stops 8 (by decide) (w2.heap.size + 1) b c1 us (by omega) w4 (by omega) (by have := hbW.size; omega) (by rw [hul]; exact row_cell hBs (j := 0) rfl) (fun j u hj => by
     obtain ⟨y, hy, rfl⟩ := hgu j u hj
     obtain ⟨b', e1, e2, -⟩ := HI.out.row j y hy
     have e3 : b = b' := by simpa using e1
     rw [← e3] at e2
     exact (hbW.cell (p := ⟨b, j, none⟩) hbb).trans e2))
   (fun h1 h2 => h1.t h2) (fun W' l o o' hl ho hc hw => ⟨World.putObj_heap_other (by omega), World.putObj_heap_other (by omega)⟩) (Below.refl _ _) (fun _ => rfl)
   (fun pre W' => (∃ who2 L3 S3 nx sv6, RngI E W who1 L2 S2 w2.heap.size nb5 mb5 W.heap.size ds Ds (pendI cur us pre) who2 L3 S3 nx sv6 W') /\ W'.heap[w2.heap.size + 1]? = some (.cells [Value.slice (some ⟨b, 0, none⟩) nn c1].toArray 170 (0, 0)) /\ (∃ cr, W'.heap[b]? = some (.cells cr 136 (0, 0))))
   (fun _ _ _ => False)
   (fun pre A B row hs hg hr => by
     obtain ⟨⟨who2, L3, S3, nx, sv6, hR⟩, hq1, crr, hq2⟩ := hs
     have hkk : ∀ (k : Nat) (cr : Array Value) (t : TypeId), A.heap[k]? = some (.cells cr t (0, 0)) -> B.heap[k]? = some (.cells cr t (0, 0)) := fun k cr t hk => by
      rw [hg.block k (row_lt hk) (fun e => ?_)]
      ·exact hk
      ·obtain ⟨-, o, h1, h2⟩ := hr k e.symm
       rw [hk] at h1; injection h1 with h1; rw [← h1] at h2; cases h2
     refine ⟨?_, hkk _ _ _ hq1, crr, hkk _ _ _ hq2⟩
     exact ⟨who2, L3, S3, nx, sv6, hR.own (X := fun k => row = some k) (Frm.of_grown hg fun k e => e) (fun k _ e => hr k e) (by have := hbW.size; omega) hmaps hnm4 hmp5 hDs4⟩)
   (fun _ _ _ _ _ hs _ _ => hs)
   ⟨⟨who1, L2, S2, [], sv5, HR0.out⟩, hBs, cr, (hbW.block b hbb).trans hcr⟩
   (fun x => { tmps := #[Value.pointer (some ⟨tb, 0, none⟩), .slice (some ⟨b, 0, none⟩) nn c1, .pointer (some ⟨w.heap.size, 0, none⟩), undef, .pointer (some ⟨w1.heap.size, 0, none⟩), .pointer (some ⟨w2.heap.size, 0, none⟩), undef, us[x.1]'x.2, undef, u9, .pointer (some ⟨tb, 0, none⟩), .slice o met.length c, .map (some (w.heap.size + 1)), .slice (some ⟨b, 0, none⟩) nn c1, .int .i64 nn, .bool true, .pointer (some ⟨nb5, 0, none⟩), .slice (some ⟨b, 0, none⟩) nn c1, .func (.func 202) #[] #[.pointer (some ⟨w2.heap.size + 1, 0, none⟩)], .int .i64 (x.1 : Int), us[x.1]'x.2, u21, u22, u23, u24, u25, u26, u27, u28, u29, u30, u31, u32, u33, u34, u35, u36, u37, u38, u39, u40], defers := [] }) ?assign ?body ?done ?stop
  case assign =>
   intro l x W' K hK
   unfold encB
   gi_wp2
   exact hK
  case body =>
   rintro l pre x W' ⟨⟨who2, L3, S3, nx, sv6, hR⟩, hQ⟩ _
   obtain ⟨y, hy, hvy⟩ := hgu x.1 _ (List.getElem?_eq_getElem x.2)
   have hym : y ∈ E.met := HI.out.kc y (List.mem_of_getElem? hy)
   have ky3 : Kn S3 y := hR.kn y hym
   have hcy : cxN S3 y = cxN S2 y := cxN_le hR.g.le (HI.out.kn y hym)
   obtain ⟨hcov, etb, enm, eb2, eb4⟩ := HCOV.out
   have HG : Hid (∀ n, CallsIn Fence.wide n Tryz.prog 177 #[.pointer (some ⟨tb, 0, none⟩), cxN S2 y] W' fun e W2 => e = .returned (.bool (decide (crW E.ts who2 y (ruleN E.xs y) ≠ who2 y))) /\ ∃ L4 S4, GStep E.U E.ts E.xs E.lo E.tb E.sb E.f who2 L3 S3 W' (upd who2 y (crW E.ts who2 y (ruleN E.xs y))) L4 S4 W2) := fun n => by
    have := grows_any HW hcov hR.lg.small hR.g.at' ky3
    rw [hcy, etb] at this
    rw [etb]
    exact callsIn_wide.2 this
   have HR : Hid (RngI E W who1 L2 S2 w2.heap.size nb5 mb5 W.heap.size ds Ds (pendI cur us pre) who2 L3 S3 nx sv6 W') := hR
   have b2 := row_cell hR.b2 (j := 0) rfl
   rw [eb2, etb] at b2
   have HPN : Hid (∀ z, pendI cur us pre z -> z ≠ y -> pendI cur us (pre ++ [x]) z) := by
    rintro z ⟨i, h1, h2⟩ hz
    refine ⟨i, fun hm => ?_, h2⟩
    rcases List.mem_append.1 hm with hm | hm
    ·exact h1 hm
    ·rw [List.mem_singleton] at hm
     rw [hm, hy] at h2
     exact hz (Option.some.inj h2).symm
   have HQ : Hid (W'.heap[w2.heap.size + 1]? = some (.cells [Value.slice (some ⟨b, 0, none⟩) nn c1].toArray 170 (0, 0)) /\ (∃ cr, W'.heap[b]? = some (.cells cr 136 (0, 0)))) := hQ
   rw [hvy]
   have HY : Hid (y ∈ E.met /\ cxN S3 y = cxN S2 y /\ Kn S3 y) := ⟨hym, hcy, ky3⟩
   clear hR hy hvy hym ky3 hcy hQ
   by_cases hcr' : crW E.ts who2 y (ruleN E.xs y) = who2 y
   ·have hd : decide (crW E.ts who2 y (ruleN E.xs y) ≠ who2 y) = false := by simpa using hcr'
    rw [hd] at HG
    have HCR : Hid (crW E.ts who2 y (ruleN E.xs y) = who2 y) := hcr'
    clear hd hcr'
    generalize cxN S2 y = cz at *
    gi_wp2_with (gi_at_call 177; refine (CallsIn.inRound l (HG.out _)).mono ?_; rintro e W2 ⟨rfl, L4, S4, hG⟩; have HGS : Hid (GStep E.U E.ts E.xs E.lo E.tb E.sb E.f who2 L3 S3 W' (upd who2 y (crW E.ts who2 y (ruleN E.xs y))) L4 S4 W2) := hG; clear hG)
    obtain ⟨q1, q2⟩ := HBB.out W' HQ.out W2 fun k cr t hk ht => HGS.out.cells HR.out.g.at' hk (by rcases ht with ⟨e, -⟩ | e <;> rw [e] <;> decide) (by rcases ht with ⟨e, -⟩ | e <;> rw [e] <;> decide)
    exact ⟨HGS.out.keepsFrom HR.out.g.at' HR.out.mp HMISC.out.1, q1, ⟨_, L4, S4, nx, sv6, (HR.out.told HOK.out HY.out.1 HGS.out).1 HCR.out _ HPN.out⟩, q2⟩
   ·have hd : decide (crW E.ts who2 y (ruleN E.xs y) ≠ who2 y) = true := by simpa using hcr'
    rw [hd] at HG
    have HCR : Hid (crW E.ts who2 y (ruleN E.xs y) ≠ who2 y) := hcr'
    obtain ⟨ll, hll⟩ : ∃ ll, subsOf E.prs y = ll := ⟨_, rfl⟩
    have HLL : Hid (subsOf E.prs y = ll) := hll
    have hlm : ∀ z ∈ ll, z ∈ E.met := fun z hz => by
     rw [← hll] at hz
     exact ((HOK.out.prs y z).1 (mem_subsOf.1 hz)).1
    have hln : ll.length <= 1000000000000 := by
     rw [← hll, hE]
     show (subsOf (prK ts xs met met.length) y).length <= _
     have h1 : (subsOf (prK ts xs met met.length) y).length <= (prK ts xs met met.length).length := by
      unfold subsOf
      rw [List.length_map]; exact List.length_filter_le _ _
     have h2 := prK_len (ts := ts) (xs := xs) (l := met) (fun y => names_len cov HH.out.tn y) met.length
     have h3 : met.length * 10251 <= 32000000 * 10251 := Nat.mul_le_mul_right _ hml
     omega
    clear hd hcr'
    have HLM : Hid (∀ z ∈ ll, z ∈ E.met) := hlm
    have HGR : Hid (∀ L4 S4 W2, GStep E.U E.ts E.xs E.lo E.tb E.sb E.f who2 L3 S3 W' (upd who2 y (crW E.ts who2 y (ruleN E.xs y))) L4 S4 W2 -> gapL (upd who2 y (crW E.ts who2 y (ruleN E.xs y))) E.met < gapL who1 E.met /\ RngI E W who1 L2 S2 w2.heap.size nb5 mb5 W.heap.size ds Ds (fun z => (pendI cur us pre z /\ z ≠ y) \/ (z ∈ E.met /\ y ∈ namesN E.ts (ruleN E.xs) z)) (upd who2 y (crW E.ts who2 y (ruleN E.xs y))) L4 S4 nx sv6 W2 /\ W2.cell? ⟨w1.heap.size, 0, none⟩ = some (.map (some (w.heap.size + 1))) /\ ∃ no nc, (Instr.lookup 179 (.map (some (w.heap.size + 1))) (cxN S2 y) false).run Tryz.prog W2 = .ok (.slice no ll.length nc) W2 /\ (ll = [] \/ E.g y = some (.slice no ll.length nc))) := by
     intro L4 S4 W2 hG
     obtain ⟨h1, h2⟩ := (HR.out.told HOK.out HY.out.1 hG).2 HCR.out
     have b4 := row_cell h2.b4 (j := 0) rfl
     rw [eb4, enm] at b4
     obtain ⟨no, nc, h3, h4⟩ := h2.nm.look2 h2.g.at'.t.ok (HY.out.2.2.le hG.le)
     rw [cxN_le hG.le HY.out.2.2, HY.out.2.1, enm, hll] at h3
     rw [hll] at h4
     exact ⟨h1, h2, b4, no, nc, h3, h4⟩
    clear hll hlm
    obtain ⟨mm, hmm⟩ : ∃ mm, ll.length = mm := ⟨_, rfl⟩
    have HMM : Hid (ll.length = mm) := hmm
    rw [hmm] at hln HGR
    clear hmm
    generalize upd who2 y (crW E.ts who2 y (ruleN E.xs y)) = who3 at *
    generalize cxN S2 y = cz at *
    gi_wp2_with (gi_at_call 177; refine (CallsIn.inRound l (HG.out _)).mono ?_; rintro e W2 ⟨rfl, L4, S4, hG⟩; have HGS : Hid (GStep E.U E.ts E.xs E.lo E.tb E.sb E.f who2 L3 S3 W' who3 L4 S4 W2) := hG; obtain ⟨hlt3, hR3, b4, no, nc, hlk, hgy⟩ := HGR.out L4 S4 W2 hG; have HLT3 : Hid (gapL who3 E.met < gapL who1 E.met) := hlt3; have HR3 : Hid (RngI E W who1 L2 S2 w2.heap.size nb5 mb5 W.heap.size ds Ds (fun z => (pendI cur us pre z /\ z ≠ y) \/ (z ∈ E.met /\ y ∈ namesN E.ts (ruleN E.xs) z)) who3 L4 S4 nx sv6 W2) := hR3; have HGY : Hid (ll = [] \/ E.g y = some (.slice no mm nc)) := hgy; clear hG hlt3 hR3 hgy)
    obtain ⟨q1, q2⟩ := HBB.out W' HQ.out W2 fun k cr t hk ht => HGS.out.cells HR.out.g.at' hk (by rcases ht with ⟨e, -⟩ | e <;> rw [e] <;> decide) (by rcases ht with ⟨e, -⟩ | e <;> rw [e] <;> decide)
    have HKF : Hid (KeepsFrom w4.heap.size W' W2) := HGS.out.keepsFrom HR.out.g.at' HR.out.mp HMISC.out.1
    have HQ2 : Hid (KeepB (w2.heap.size + 1) b W' W2 /\ W2.heap[w2.heap.size + 1]? = some (.cells [Value.slice (some ⟨b, 0, none⟩) nn c1].toArray 170 (0, 0)) /\ (∃ cr, W2.heap[b]? = some (.cells cr 136 (0, 0)))) := ⟨q1, q2⟩
    clear q1 q2
    gi_loopw [29] (fun i wi => ∃ (j : Nat) (svj : Value), j <= mm /\ i = .int .i64 j /\ RngI E W who1 L2 S2 w2.heap.size nb5 mb5 W.heap.size ds Ds (fun z => (pendI cur us pre z /\ z ≠ y) \/ (z ∈ E.met /\ y ∈ namesN E.ts (ruleN E.xs) z)) who3 L4 S4 (addL nx (ll.take j)) svj wi /\ KeepsFrom w4.heap.size W' wi /\ KeepB (w2.heap.size + 1) b W' wi /\ wi.heap[w2.heap.size + 1]? = some (.cells [Value.slice (some ⟨b, 0, none⟩) nn c1].toArray 170 (0, 0)) /\ (∃ cr, wi.heap[b]? = some (.cells cr 136 (0, 0)))) (fun i _ => mm - (intOf i).toNat)
    case atStart => exact ⟨0, sv6, Nat.zero_le _, rfl, by rw [List.take_zero]; exact HR3.out, HKF.out, HQ2.out⟩
    case round =>
     obtain ⟨j, svj, hj, rfl, hRj, hKj, hKBj, hQj⟩ := hrel
     have HRJ : Hid (RngI E W who1 L2 S2 w2.heap.size nb5 mb5 W.heap.size ds Ds (fun z => (pendI cur us pre z /\ z ≠ y) \/ (z ∈ E.met /\ y ∈ namesN E.ts (ruleN E.xs) z)) who3 L4 S4 (addL nx (ll.take j)) svj wr) := hRj
     have HKJ : Hid (KeepsFrom w4.heap.size W' wr /\ KeepB (w2.heap.size + 1) b W' wr /\ wr.heap[w2.heap.size + 1]? = some (.cells [Value.slice (some ⟨b, 0, none⟩) nn c1].toArray 170 (0, 0)) /\ (∃ cr, wr.heap[b]? = some (.cells cr 136 (0, 0)))) := ⟨hKj, hKBj, hQj⟩
     have d5 := row_cell hRj.b5 (j := 0) rfl
     clear hRj hKj hKBj hQj
     by_cases hjt : j < mm
     ·obtain ⟨z, hz⟩ : ∃ z, ll[j]? = some z := ⟨_, List.getElem?_eq_getElem (by rw [HMM.out]; exact hjt)⟩
      obtain ⟨gg, hgg, hcz⟩ := HRJ.out.nm.cellAt (x := y) (o := no) (c := nc) (by rw [HLL.out, HMM.out]; exact HGY.out) (j := j) (y := z) (by rw [HLL.out]; exact hz)
      subst hgg
      have HNU : Hid (∀ n, CallsIn Fence.wide n Tryz.prog 135 #[.pointer (some ⟨nb5, 0, none⟩), cxN S4 z] wr fun e W4 => (∃ i : Nat, e = .returned (.int .i64 i)) /\ ∃ sv7, RngI E W who1 L2 S2 w2.heap.size nb5 mb5 W.heap.size ds Ds (fun z => (pendI cur us pre z /\ z ≠ y) \/ (z ∈ E.met /\ y ∈ namesN E.ts (ruleN E.xs) z)) who3 L4 S4 (addL nx (ll.take (j + 1))) sv7 W4 /\ KeepsFrom w4.heap.size W' W4 /\ KeepB (w2.heap.size + 1) b W' W4 /\ W4.heap[w2.heap.size + 1]? = some (.cells [Value.slice (some ⟨b, 0, none⟩) nn c1].toArray 170 (0, 0)) /\ (∃ cr, W4.heap[b]? = some (.cells cr 136 (0, 0)))) := fun n => by
       refine callsIn_wide.2 ((HRJ.out.num (Nat.le_refl _) HLT3.out (HLM.out z (List.mem_of_getElem? hz))).mono ?_)
       rintro e W4 ⟨hi, sv7, hR7, hf7⟩
       obtain ⟨k1, k2, k3⟩ := HKJ.out
       obtain ⟨q1, q2⟩ := HBB.out wr k3 W4 fun k cr t hk ht => hf7.block k (row_lt hk) fun hx => by
        rcases ht with ⟨e, hlt⟩ | e
        ·have := (HRJ.out.m.num.lt hx).2; omega
        ·rcases HRJ.out.m.num.kind hx hk with e2 | e2 <;> rw [e] at e2 <;> revert e2 <;> decide
       exact ⟨hi, sv7, by rw [addL_next hz]; exact hR7, k1.trans (num_keepsFrom HRJ.out.m.num hf7 HMISC.out.2.1), k2.t q1, q2⟩
      clear hz
      generalize cxN S4 z = cw at *
      gi_wp2_with (gi_at_call 135; refine (CallsIn.inRound l (HNU.out _)).mono ?_; rintro e W4 ⟨⟨i, rfl⟩, sv7, hR7, hK7⟩; have HR7 : Hid (RngI E W who1 L2 S2 w2.heap.size nb5 mb5 W.heap.size ds Ds (fun z => (pendI cur us pre z /\ z ≠ y) \/ (z ∈ E.met /\ y ∈ namesN E.ts (ruleN E.xs) z)) who3 L4 S4 (addL nx (ll.take (j + 1))) sv7 W4) := hR7; have HK7 : Hid (KeepsFrom w4.heap.size W' W4 /\ KeepB (w2.heap.size + 1) b W' W4 /\ W4.heap[w2.heap.size + 1]? = some (.cells [Value.slice (some ⟨b, 0, none⟩) nn c1].toArray 170 (0, 0)) /\ (∃ cr, W4.heap[b]? = some (.cells cr 136 (0, 0)))) := hK7; clear hR7 hK7)
      go_roundw
      case rel => exact ⟨j + 1, sv7, by omega, by go_num, HR7.out, HK7.out⟩
      case measure => simp [intOf]; omega
     ·obtain rfl : j = mm := by omega
      gi_wp2
      have hRf := HRJ.out
      rw [List.take_of_length_le (by rw [HMM.out]; exact Nat.le_refl _)] at hRf
      refine ⟨HKJ.out.1, HKJ.out.2.1, ⟨who3, L4, S4, addL nx ll, svj, hRf.mono fun z _ hz => ?_⟩, HKJ.out.2.2⟩
      rcases hz with ⟨h1, h2⟩ | ⟨h1, h2⟩
      ·exact Or.inr (HPN.out z h1 h2)
      ·refine Or.inl ((mem_addL ll nx z).2 (Or.inr ?_))
       rw [← HLL.out]
       exact mem_subsOf.2 ((HOK.out.prs y z).2 ⟨h1, h2⟩)
  case done =>
   rintro D ys W' hD hys ⟨⟨who2, L3, S3, nx, sv6, hR⟩, -⟩ hK
   obtain ⟨o', c', m', rfl, hlt, hS⟩ := HI.out.over HNE.out hR (fun y ⟨i, hi, _⟩ => hi (hys i)) (Nat.le_trans hbW.size hD) hK
   have d5 := row_cell hR.b5 (j := 0) rfl
   have n5 := row_cell hR.m.num.blk (j := 1) rfl
   have HS : Hid (SetI E wC who L1 S1 nx o' ({ target := .collected D, args := #[] } :: ds) (D :: Ds) who2 L3 S3 m' W') := hS
   have HLT : Hid (m' < m) := hlt
   clear hS hR hlt hK
   gi_wp2
   refine ⟨m', HLT.out, nx, o', c', { target := .collected D, args := #[] } :: ds, D :: Ds, who2, L3, S3, ?_⟩
   (repeat apply Exists.intro)
   exact ⟨rfl, HS.out⟩
  case stop =>
   rintro D cc pre W' _ _ hF _
   exact hF.elim
open Go.RowKit
structure WNew (U : List ByteArray) (ts : List (Nod × Nod)) (xs : List ByteArray) (lo tb : Nat) (f : Nod -> Option Value) (who : Nod -> Nat) (L : TL) (S : TS) (w : World) (x : Nod) (wb nb mb sb : Nat) (L' : TL) (S' : TS) (sv : Value) (w' : World) : Prop where
 wa : WA U ts xs lo tb sb f who wb nb mb L' S' sv [x] 0 w'
 bel : Below lo w w'
 uss : S'.uss = S.uss
 low : lo <= wb
theorem wnew_end {U : List ByteArray} {ts : List (Nod × Nod)} {xs : List ByteArray} {lo tb : Nat} {f : Nod -> Option Value} {who : Nod -> Nat} {L : TL} {S : TS} {w : World} {x : Nod} (hth : x.isTh = false) {w1 : World} (hb1 : Below lo w w1) (h : TA U ts xs lo tb w1.heap.size f who L S w1) {L' : TL} {S' : TS} {w2 : World} (k : Kn S' x) (r : NStep 1 U lo tb f who L S w1 L' S' w2)
  {v : List Value} {ty : TypeId} {nb mb : Nat} {sv : Value} {w4 : World} (hn : NumCx (cxN S') w4 (w2.alloc (.cells v.toArray ty)).heap.size nb mb sv [x]) (hb4 : Below (w2.alloc (.cells v.toArray ty)).heap.size (w2.alloc (.cells v.toArray ty)) w4) :
  WNew U ts xs lo tb f who L S w x w4.heap.size nb mb w2.heap.size L' S' sv (w4.alloc (.cells [Value.pointer (some ⟨tb, 0, none⟩), .pointer (some ⟨nb, 0, none⟩), .int .i64 (0 : Nat)].toArray 139)) := by
 have z3 : (w2.alloc (.cells v.toArray ty)).heap.size = w2.heap.size + 1 := by show (w2.heap.push _).size = _; simp
 have hb3 : Below w2.heap.size w2 (w2.alloc (.cells v.toArray ty)) := by repeat (first | exact Below.refl _ _ | refine Below.setCell ?_ (by first | exact Nat.le_refl _ | (simp; done) | (simp; omega)) _ | refine below_drewN ?_ _ | refine Below.drew ?_ | refine Below.alloc ?_ (by first | exact Nat.le_refl _ | (simp; done) | (simp; omega)) _)
 rw [z3] at hn hb4
 have hb24 : Below w2.heap.size w2 w4 := hb3.trans (hb4.mono (by omega))
 have z4 := hb24.size
 have hb5 : Below w4.heap.size w4 (w4.alloc (.cells [Value.pointer (some ⟨tb, 0, none⟩), .pointer (some ⟨nb, 0, none⟩), .int .i64 (0 : Nat)].toArray 139)) := by repeat (first | exact Below.refl _ _ | refine Below.setCell ?_ (by first | exact Nat.le_refl _ | (simp; done) | (simp; omega)) _ | refine below_drewN ?_ _ | refine Below.drew ?_ | refine Below.alloc ?_ (by first | exact Nat.le_refl _ | (simp; done) | (simp; omega)) _)
 have hb25 := hb24.trans (hb5.mono z4)
 have t2 := h.nstep r
 have hbl := NStep.below h.t hb1 r
 have hlo : lo <= w2.heap.size := t2.lo
 refine ⟨⟨t2.below hb25, ⟨(hn.base (by omega)).keep (X := fun _ => False) (Frm.of_below hb5) (fun _ _ e => e), ?_, ?_, ?_⟩, alloc_new w4 _ _, ?_, by simp⟩, hbl.trans (hb25.mono hlo), r.uss, Nat.le_trans hlo z4⟩
 ·intro y hy; rw [List.mem_singleton] at hy; rw [hy]; exact k
 ·intro hm
  have h1 := t2.maps_lt hm
  have h2 := hn.lom
  omega
 ·intro j hj
  have h2 := (owns_lt hn.row j hj).2.1
  omega
 ·intro y hy; rw [List.mem_singleton] at hy; rw [hy]; exact hth
theorem walkNew_any (HN : Hid NodeC) {U : List ByteArray} {ts : List (Nod × Nod)} {xs : List ByteArray} {lo tb : Nat} {f : Nod -> Option Value} {who : Nod -> Nat} {L : TL} {S : TS} {w : World} (h : TA U ts xs lo tb w.heap.size f who L S w) {x : Nod} (hx : okNd x) (hth : x.isTh = false) (hr : x.r ∈ U) (hl : S.ths.length < 4000) :
  Calls Tryz.prog 43 #[.pointer (some ⟨tb, 0, none⟩), .agg #[.string x.k, .string x.n, .string x.r]] w fun e w' => ∃ wb nb mb sb L' S' sv, e = .returned (.pointer (some ⟨wb, 0, none⟩)) /\ WNew U ts xs lo tb f who L S w x wb nb mb sb L' S' sv w' := by
 have hb1 : Below w.heap.size w (w.alloc (.cells #[.string x.k, .string x.n, .string x.r] 75)) := by repeat (first | exact Below.refl _ _ | refine Below.setCell ?_ (by first | exact Nat.le_refl _ | (simp; done) | (simp; omega)) _ | refine below_drewN ?_ _ | refine Below.drew ?_ | refine Below.alloc ?_ (by first | exact Nat.le_refl _ | (simp; done) | (simp; omega)) _)
 have h1 : TA U ts xs lo tb (w.alloc (.cells #[.string x.k, .string x.n, .string x.r] 75)).heap.size f who L S (w.alloc (.cells #[.string x.k, .string x.n, .string x.r] 75)) := (h.below hb1).wide (h.below hb1).sb (Nat.le_refl _)
 have HNO : Hid (Calls Tryz.prog 86 #[.pointer (some ⟨tb, 0, none⟩), .agg #[.string x.k, .string x.n, .string x.r]] (w.alloc (.cells #[.string x.k, .string x.n, .string x.r] 75)) fun e w' => ∃ p q L' S', cxN S' x = .complex .f64 p q /\ e = .returned (.complex .f64 p q) /\ Hid (Calls Tryz.prog 85 #[.slice (some ⟨w'.heap.size, 0, none⟩) 1 1] (w'.alloc (.cells #[.complex .f64 p q] 136)) fun e4 w4 => ∃ nb mb sv, e4 = .returned (.pointer (some ⟨nb, 0, none⟩)) /\ WNew U ts xs lo tb f who L S w x w4.heap.size nb mb w'.heap.size L' S' sv (w4.alloc (.cells #[.pointer (some ⟨tb, 0, none⟩), .pointer (some ⟨nb, 0, none⟩), .int .i64 0] 139)))) := by
  refine (HN.out h1.t x hx hr hl h1.lo).mono ?_
  rintro e w2 ⟨L', S', he, k, r⟩
  refine ⟨_, _, L', S', rfl, he, ?_⟩
  show Calls _ _ _ _ _
  refine (cntCx_one (cxN S') x _ _ rfl (r.at'.ok.good k) w2.heap.size 1 _ (row_cell (alloc_new w2 [cxN S' x] 136) (j := 0) rfl)).mono ?_
  rintro e4 w4 ⟨nb, mb, sv, he4, hn, hb4⟩
  exact ⟨nb, mb, sv, he4, wnew_end hth (hb1.mono h.lo) h1 k r (v := [cxN S' x]) hn hb4⟩
 clear h h1 hb1 hx hth hr hl HN
 go_enter Tryz.func43, Tryz.ntmps43
 go_wp2_with (first | (go_at_call 86; refine HNO.out.mono ?_; rintro e w2 ⟨p, q, L', S', hpq, rfl, HCT⟩; clear hpq) | (go_at_call 85; refine HCT.out.mono ?_; rintro e w4 ⟨nb, mb, sv, rfl, hw⟩))
 go_ret
 exact ⟨_, _, _, _, _, _, _, rfl, hw⟩
end Go.Proofs.YtalmoiogbdahcaaGreat
