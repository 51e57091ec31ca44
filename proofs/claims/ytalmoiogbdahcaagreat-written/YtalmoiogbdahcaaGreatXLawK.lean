import Derived.Test.YtalmoiogbdahcaaGreatXRefH
import Derived.Test.YtalmoiogbdahcaaGreatXGhG
import Derived.Test.YtalmoiogbdahcaaGreatXLawG

/- What holds of the statements' own world behind each step. -/
namespace Go.Proofs.YtalmoiogbdahcaaGreat
open Go.RowKit

def mutT (t : TypeId) : Bool := t == 61 || t == 28 || t == 66
def gateT (t : TypeId) : Bool := t == 99 || t == 124
/-- a block that is none of the owner's. -/
def notMut : Obj → Prop
  | .cells _ t _ => mutT t = false
  | _ => True
def notGate : Obj → Prop
  | .cells _ t _ => gateT t = false
  | _ => True
/-- what was there stays, but for the owner's own and for some gates. -/
structure SK (X : Nat → Prop) (w w' : World) : Prop where
  size : w.heap.size ≤ w'.heap.size
  block : ∀ (k : Nat) (o : Obj), w.heap[k]? = some o → notMut o → (notGate o ∨ ¬ X k) → w'.heap[k]? = some o
theorem SK.trans {X : Nat → Prop} {a b c : World} (h : SK X a b) (g : SK X b c) : SK X a c :=
  ⟨Nat.le_trans h.size g.size, fun k o ho h1 h2 => g.block k o (h.block k o ho h1 h2) h1 h2⟩
theorem SK.below {X : Nat → Prop} {w w' : World} (h : Below w.heap.size w w') : SK X w w' :=
  ⟨h.size, fun k o ho _ _ => by rw [h.block k (row_lt ho)]; exact ho⟩
/-- a gate that may turn. -/
theorem SK.gate {X : Nat → Prop} {w w' : World} {b : Nat} {cs : List Value} {t : TypeId} (h : w.grownBy w' (some b)) (hb : w.heap[b]? = some (.cells cs.toArray t (0, 0))) (ht : gateT t = true) (hx : X b) : SK X w w' := by
  refine ⟨h.size, fun k o ho _ h2 => ?_⟩
  by_cases e : k = b
  · subst e
    rw [hb] at ho
    injection ho with ho
    subst ho
    rcases h2 with h2 | h2
    · have : gateT t = false := h2
      rw [ht] at this; cases this
    · exact absurd hx h2
  · rw [h.block k (row_lt ho) (by simpa using e)]; exact ho
theorem SK.new {X : Nat → Prop} {w0 w w' : World} {b : Nat} (h0 : SK X w0 w) (h : w.grownBy w' (some b)) (hb : w0.heap.size ≤ b) : SK X w0 w' := by
  refine ⟨Nat.le_trans h0.size h.size, fun k o ho h1 h2 => ?_⟩
  have hk := row_lt ho
  rw [h.block k (Nat.lt_of_lt_of_le hk h0.size) (by simp; omega)]
  exact h0.block k o ho h1 h2
theorem SK.str {X : Nat → Prop} {w w' : World} (h : SK X w w') {k : Nat} {cur : List Value} (hk : w.heap[k]? = some (.cells cur.toArray 9 (0, 0))) : w'.heap[k]? = w.heap[k]? := by
  rw [hk]; exact h.block k _ hk (by show mutT 9 = false; decide) (Or.inl (by show gateT 9 = false; decide))
theorem SK.way {X : Nat → Prop} {w w' : World} (h : SK X w w') {k : Nat} {cur : Array Value} (hk : w.heap[k]? = some (.cells cur 106 (0, 0))) : w'.heap[k]? = w.heap[k]? := by
  rw [hk]; exact h.block k _ hk (by show mutT 106 = false; decide) (Or.inl (by show gateT 106 = false; decide))
theorem SK.rule {X : Nat → Prop} {w w' : World} (h : SK X w w') {k : Nat} {cur : Array Value} (hk : w.heap[k]? = some (.cells cur 163 (0, 0))) : w'.heap[k]? = w.heap[k]? := by
  rw [hk]; exact h.block k _ hk (by show mutT 163 = false; decide) (Or.inl (by show gateT 163 = false; decide))
theorem SK.mapAt {X : Nat → Prop} {w w' : World} (h : SK X w w') {Gd : Value → Prop} {mb : Nat} {m : List (Value × Value)} (hm : MapAt w Gd mb m) : MapAt w' Gd mb m := by
  obtain ⟨es, c, h1, h2⟩ := hm
  exact ⟨es, c, h.block mb _ h1 trivial (Or.inl trivial), h2⟩
theorem SK.strT {X : Nat → Prop} {w w' : World} (h : SK X w w') {v : Value} {xs : List ByteArray} (hs : StrT w v xs) : StrT w' v xs := hs.move fun _ _ hk => h.str hk
theorem SK.rmap {X : Nat → Prop} {w w' : World} (h : SK X w w') {lo : Nat} {xs : List ByteArray} {m : List (Value × Value)} (hs : RMap w lo xs m) : RMap w' lo xs m := hs.move fun _ _ _ hk => h.way hk
theorem SK.rules {X : Nat → Prop} {w w' : World} (h : SK X w w') {base n : Nat} {v : Value} {us : List Value} (ho : w.ownsRow base 163 2 v n us) : w'.ownsRow base 163 2 v n us :=
  owns_to ho fun g hg => by obtain ⟨-, -, cur, hc⟩ := owns_lt ho g hg; exact h.rule hc

/-- a gate and the document's, as they lie beside one another. -/
structure PS where
  pb : Nat
  gb : Nat
  rb : Nat
  g : Pg
  r : Rg
  xs : List ByteArray
  now : List ByteArray
  m : List (Value × Value)
  lo : Nat
/-- what each tuple that is there is: one, and both its nodes have a rule. -/
def goodT (rs : List (ByteArray × ByteArray)) (s : ByteArray) : Prop := tupleS s = true ∧ (ruleL rs (cutA s 64)).size ≠ 0 ∧ (nodeS (cutZ s 64) = true → (ruleL rs (cutZ s 64)).size ≠ 0)
structure PairOk (w : World) (B : Nat) (V : Int) (p : PS) : Prop where
  pair : w.heap[p.pb]? = some (.cells [Value.pointer (some ⟨p.gb, 0, none⟩), .pointer (some ⟨p.rb, 0, none⟩)].toArray 65 (0, 0))
  pg : PgAt w p.gb p.g
  rg : RgAt w p.rb p.r
  map : MapAt w HeadG p.g.mb p.m
  rmap : RMap w p.lo p.xs p.m
  rules : w.ownsRow p.lo 163 2 p.r.rulesV (ruleOfs p.xs).length (flR (ruleOfs p.xs))
  okx : openErr p.xs = none
  few : p.xs.length ≤ 12
  tv : StrT w p.g.tv p.now
  nv : StrT w p.r.nowV p.now
  sorted : Sorted p.now
  nl : p.now.length ≤ 50
  tup : ∀ s ∈ p.now, goodT (ruleOfs p.xs) s
  lk : p.g.lk = 0
  cl : p.g.cl = false
  rcl : p.r.closed = false
  ver : p.g.ver = p.r.version
  ver0 : 0 ≤ p.g.ver
  verV : p.g.ver ≤ V
  gB : B ≤ p.gb
  rB : B ≤ p.rb
theorem PairOk.more {w : World} {B : Nat} {V V' : Int} {p : PS} (h : PairOk w B V p) (hV : V ≤ V') : PairOk w B V' p := { h with verV := Int.le_trans h.verV hV }
theorem PairOk.keep {X : Nat → Prop} {w w' : World} {B : Nat} {V : Int} {p : PS} (h : PairOk w B V p) (k : SK X w w') (h1 : ¬ X p.gb) (h2 : ¬ X p.rb) : PairOk w' B V p :=
  { h with
    pair := k.block _ _ h.pair (by show mutT 65 = false; decide) (Or.inl (by show gateT 65 = false; decide))
    pg := k.block _ _ h.pg (by show mutT 99 = false; decide) (Or.inr h1)
    rg := k.block _ _ h.rg (by show mutT 124 = false; decide) (Or.inr h2)
    map := k.mapAt h.map
    rmap := k.rmap h.rmap
    rules := k.rules h.rules
    tv := k.strT h.tv
    nv := k.strT h.nv }

/-- the whole of it: the owner's cells, the pairs, the lists. -/
structure LSt (W w : World) (wb : Nat) (V : Int) (L : List PS) (pv l1 l3 : Value) (us ws : List Value) : Prop where
  lw : LwAt w wb pv l1 l3
  op : w.ownsRow (wb + 1) 66 1 pv L.length (L.map fun p => Value.pointer (some ⟨p.pb, 0, none⟩))
  o1 : w.ownsRow (wb + 1) 28 1 l1 us.length us
  o3 : w.ownsRow (wb + 1) 28 1 l3 ws.length ws
  sep : ∀ k, l1.ownBlock = some k → l3.ownBlock ≠ some k
  pairs : ∀ p ∈ L, PairOk w W.heap.size V p
  gnd : (L.map (·.gb)).Nodup
  rnd : (L.map (·.rb)).Nodup
  three : ws.length = 3 * us.length
  full1 : ∀ (k : Nat) (u : Value), us[k]? = some u → LFull w u (strokesS k)
  full3 : ∀ (k j : Nat) (u : Value), k < us.length → j < 3 → ws[3 * k + j]? = some u → FullB w u (strokesS k)
  below : Below W.heap.size W w
  wbB : W.heap.size ≤ wb
theorem SK.lfull {X : Nat → Prop} {w w' : World} (h : SK X w w') {v : Value} {m : ByteArray} (hv : LFull w v m) : LFull w' v m := hv.step (MPB.of_same fun _ _ hg => h.str hg)
theorem SK.fullB {X : Nat → Prop} {w w' : World} (h : SK X w w') {v : Value} {m : ByteArray} (hv : FullB w v m) : FullB w' v m := hv.step (MPB.of_same fun _ _ hg => h.str hg)

end Go.Proofs.YtalmoiogbdahcaaGreat

/- The statements' own Open. -/
namespace Go.Proofs.YtalmoiogbdahcaaGreat
open Go.RowKit

theorem openErr_code {xs : List ByteArray} {k : Nat} {c : Int} (h : openErr xs = some (k, c)) : c ≠ 0 := by
  unfold openErr at h
  obtain ⟨j, -, hj⟩ := List.exists_of_findSome?_eq_some h
  obtain ⟨c', hc, e⟩ := Option.map_eq_some_iff.1 hj
  injection e with _ e
  subst e
  unfold faultK at hc
  split at hc
  · cases hc
  · split at hc
    · injection hc with hc; omega
    · split at hc
      · injection hc with hc; omega
      · cases hc

theorem Tryz.infoPP : (Tryz.prog.info? 66).map (fun i => (i.zero, i.size, i.bytes)) = some (some (.pointer none), 1, 8) := by kernel_rfl
/-- one pair more. -/
theorem app_pair (w : World) (base : Nat) (v : Value) (n : Nat) (us : List Value) (b : Nat) (hown : w.ownsRow base 66 1 v n us) (hb : base ≤ w.heap.size) (hl : n ≤ 8796093022208) :
    ∃ g c w', (Builtin.append_ #[58, 58] 58 #[v, .slice (some ⟨w.heap.size, 0, none⟩) 1 1]).run Tryz.prog (w.alloc (.cells #[.pointer (some ⟨b, 0, none⟩)] 66)) = .ok (.slice (some ⟨g, 0, none⟩) (n + 1) c) w' ∧
      w'.ownsRow base 66 1 (.slice (some ⟨g, 0, none⟩) (n + 1) c) (n + 1) (us ++ [.pointer (some ⟨b, 0, none⟩)]) ∧ w.grownBy w' v.ownBlock := by
  obtain ⟨i, hi, hzz⟩ := Option.map_eq_some_iff.1 Tryz.infoPP
  simp only [Prod.mk.injEq] at hzz
  obtain ⟨hz, hs, hby⟩ := hzz
  have hnews : ∀ (j : Nat) (x : Value), [Value.pointer (some ⟨b, 0, none⟩)][j]? = some x → (w.alloc (.cells #[.pointer (some ⟨b, 0, none⟩)] 66)).cell? ((⟨w.heap.size, 0, none⟩ : Addr).add j) = some x := by
    intro j x hj
    rw [addr_at]
    exact row_cell (alloc_new w [.pointer (some ⟨b, 0, none⟩)] _) hj
  obtain ⟨v', w', hr, h2, h3, h4⟩ := run_append_own (P := Tryz.prog) (w.alloc (.cells #[.pointer (some ⟨b, 0, none⟩)] 66)) base 58 58 66 i (.pointer none) 1 8 Tryz.underlying58 hi hz hs hby rfl (by decide) v n us (hown.alloc _) ⟨w.heap.size, 0, none⟩ 1 1 [.pointer (some ⟨b, 0, none⟩)] rfl hnews
    (by intro u hu; simp at hu; subst hu; rfl) (by unfold maxLen; omega) (by omega) (by simp; omega)
  rcases h2.2 with ⟨hv, h0⟩ | ⟨g, cap, cur, hv, -⟩
  · omega
  · subst hv
    exact ⟨g, cap, w', hr, h2, grown_alloc h3⟩

/-- what the three of a row lie in. -/
theorem pairs_notmut {w : World} {base : Nat} {v : Value} {n : Nat} {us : List Value} (h : w.ownsRow base 66 1 v n us) {k : Nat} (hk : v.ownBlock = some k) : ∃ cur : Array Value, w.heap[k]? = some (.cells cur 66 (0, 0)) := (owns_lt h k hk).2.2
theorem owns_sl_sk {w w' : World} {base n : Nat} {v : Value} {us : List Value} {t : TypeId} (h : w.ownsRow base t 1 v n us) (hk : ∀ (k : Nat) (cur : Array Value), w.heap[k]? = some (Obj.cells cur t (0, 0)) → w'.heap[k]? = w.heap[k]?) : w'.ownsRow base t 1 v n us :=
  owns_to h fun g hg => by obtain ⟨-, -, cur, hc⟩ := owns_lt h g hg; exact hk g cur hc

/-- nothing of the owner's has turned: behind calls that turn gates alone, or new blocks. -/
structure Calm (X : Nat → Prop) (w w' : World) : Prop where
  sk : SK X w w'
  own : ∀ (k : Nat) (cs : Array Value) (t : TypeId), w.heap[k]? = some (.cells cs t (0, 0)) → mutT t = true → w'.heap[k]? = w.heap[k]?
theorem Calm.trans {X : Nat → Prop} {a b c : World} (h : Calm X a b) (g : Calm X b c) : Calm X a c :=
  ⟨h.sk.trans g.sk, fun k cs t hk ht => by
    have e := h.own k cs t hk ht
    rw [g.own k cs t (by rw [e]; exact hk) ht, e]⟩
theorem Calm.below {X : Nat → Prop} {w w' : World} (h : Below w.heap.size w w') : Calm X w w' := ⟨SK.below h, fun k _ _ hk _ => h.block k (row_lt hk)⟩
theorem mut_gate {t : TypeId} (h : gateT t = true) : mutT t = false := by
  unfold gateT at h
  rw [Bool.or_eq_true, beq_iff_eq, beq_iff_eq] at h
  rcases h with rfl | rfl <;> decide
theorem Calm.gate {X : Nat → Prop} {w w' : World} {b : Nat} {cs : List Value} {t : TypeId} (h : w.grownBy w' (some b)) (hb : w.heap[b]? = some (.cells cs.toArray t (0, 0))) (ht : gateT t = true) (hx : X b) : Calm X w w' := by
  refine ⟨SK.gate h hb ht hx, fun k cs' t' hk ht' => h.block k (row_lt hk) ?_⟩
  intro e
  injection e with e
  subst e
  rw [hb] at hk
  injection hk with hk
  injection hk with _ hk
  subst hk
  rw [mut_gate ht] at ht'; cases ht'
theorem Calm.new {X : Nat → Prop} {w0 w w' : World} {b : Nat} (h0 : Calm X w0 w) (h : w.grownBy w' (some b)) (hb : w0.heap.size ≤ b) : Calm X w0 w' :=
  ⟨h0.sk.new h hb, fun k cs t hk ht => by
    have hlt := row_lt hk
    rw [h.block k (Nat.lt_of_lt_of_le hlt h0.sk.size) (by simp; omega)]
    exact h0.own k cs t hk ht⟩
/-- the owner's part behind such calls. -/
theorem LSt.calm {X : Nat → Prop} {W w w' : World} {wb : Nat} {V V' : Int} {L : List PS} {pv l1 l3 : Value} {us ws : List Value} (h : LSt W w wb V L pv l1 l3 us ws) (c : Calm X w w') (hb : Below W.heap.size W w') (L' : List PS)
    (hp : ∀ p ∈ L', PairOk w' W.heap.size V' p) (hm : L'.map (·.pb) = L.map (·.pb)) (hg : L'.map (·.gb) = L.map (·.gb)) (hr : L'.map (·.rb) = L.map (·.rb)) : LSt W w' wb V' L' pv l1 l3 us ws := by
  have hlen : L'.length = L.length := by rw [← List.length_map (f := (·.pb)), hm, List.length_map]
  have hpb : (L'.map fun p => Value.pointer (some ⟨p.pb, 0, none⟩)) = L.map fun p => Value.pointer (some ⟨p.pb, 0, none⟩) := by
    have e : ∀ M : List PS, (M.map fun p => Value.pointer (some ⟨p.pb, 0, none⟩)) = (M.map (·.pb)).map fun k => Value.pointer (some ⟨k, 0, none⟩) := fun M => by rw [List.map_map]; rfl
    rw [e, e, hm]
  refine ⟨?_, ?_, ?_, ?_, h.sep, hp, by rw [hg]; exact h.gnd, by rw [hr]; exact h.rnd, h.three, fun k u hu => c.sk.lfull (h.full1 k u hu), fun k j u h1 h2 h3 => c.sk.fullB (h.full3 k j u h1 h2 h3), hb, h.wbB⟩
  · unfold LwAt; rw [c.own wb _ _ h.lw (by decide)]; exact h.lw
  · rw [hlen, hpb]; exact owns_sl_sk h.op fun k cur hk => c.own k cur _ hk (by decide)
  · exact owns_sl_sk h.o1 fun k cur hk => c.own k cur _ hk (by decide)
  · exact owns_sl_sk h.o3 fun k cur hk => c.own k cur _ hk (by decide)

end Go.Proofs.YtalmoiogbdahcaaGreat

/- The statements' own Open: one pair more. -/
namespace Go.Proofs.YtalmoiogbdahcaaGreat
open Go.RowKit

def nobody : Nat → Prop := fun _ => False
/-- blocks of other kinds, behind the owner's store of a pair more. -/
theorem LSt.addPair {W w w4 : World} {wb : Nat} {V : Int} {L : List PS} {px : Option Addr} {pc : Nat} {l1 l3 : Value} {us ws : List Value} (h : LSt W w wb V L (.slice px L.length pc) l1 l3 us ws) (c : Calm nobody w w4) (hb4 : Below W.heap.size W w4) (hV : 0 ≤ V) (hn : L.length ≤ 8796093022208)
    {gb rb mb lo : Nat} {dk : Value} {m : List (Value × Value)} {xs : List ByteArray} {r : Rg} (hpg : PgAt w4 gb ⟨0, mb, .slice none 0 0, 0, dk, false⟩) (hrg : RgAt w4 rb r) (hmap : MapAt w4 HeadG mb m) (hrm : RMap w4 lo xs m) (hru : w4.ownsRow lo 163 2 r.rulesV (ruleOfs xs).length (flR (ruleOfs xs)))
    (ho : openErr xs = none) (hf : xs.length ≤ 12) (hnv : r.nowV = .slice none 0 0) (hve : r.version = 0) (hrc : r.closed = false) (hgw : w.heap.size ≤ gb) (hrw : w.heap.size ≤ rb) :
    ∃ g5 c5 w5, (Builtin.append_ #[58, 58] 58 #[.slice px L.length pc, .slice (some ⟨w4.heap.size + 1, 0, none⟩) 1 1]).run Tryz.prog ((w4.alloc (.cells #[.pointer (some ⟨gb, 0, none⟩), .pointer (some ⟨rb, 0, none⟩)] 65)).alloc (.cells #[.pointer (some ⟨w4.heap.size, 0, none⟩)] 66)) = .ok (.slice (some ⟨g5, 0, none⟩) (L.length + 1) c5) w5 ∧
      w5.cell? ⟨wb, 0, none⟩ = some (.slice px L.length pc) ∧ w5.frozen? ⟨wb, 0, none⟩ = false ∧
      LSt W (w5.setCell ⟨wb, 0, none⟩ (.slice (some ⟨g5, 0, none⟩) (L.length + 1) c5)) wb V (L ++ [⟨w4.heap.size, gb, rb, ⟨0, mb, .slice none 0 0, 0, dk, false⟩, r, xs, [], m, lo⟩]) (.slice (some ⟨g5, 0, none⟩) (L.length + 1) c5) l1 l3 us ws := by
  have hws : W.heap.size ≤ w.heap.size := h.below.size
  have hwb : wb < w.heap.size := row_lt h.lw
  have hs4 : w.heap.size ≤ w4.heap.size := c.sk.size
  have hbA : Below w4.heap.size w4 (w4.alloc (.cells #[.pointer (some ⟨gb, 0, none⟩), .pointer (some ⟨rb, 0, none⟩)] 65)) := (Below.refl _ _).alloc (Nat.le_refl _) _
  have hlw4 : LwAt w4 wb (.slice px L.length pc) l1 l3 := by unfold LwAt; rw [c.own wb _ _ h.lw (by decide)]; exact h.lw
  have hop4 : w4.ownsRow (wb + 1) 66 1 (.slice px L.length pc) L.length (L.map fun p => Value.pointer (some ⟨p.pb, 0, none⟩)) := owns_sl_sk h.op fun k cur hk => c.own k cur _ hk (by decide)
  have ho14 : w4.ownsRow (wb + 1) 28 1 l1 us.length us := owns_sl_sk h.o1 fun k cur hk => c.own k cur _ hk (by decide)
  have ho34 : w4.ownsRow (wb + 1) 28 1 l3 ws.length ws := owns_sl_sk h.o3 fun k cur hk => c.own k cur _ hk (by decide)
  obtain ⟨g5, c5, w5, hrun, hop5, hg5⟩ := app_pair (w4.alloc (.cells #[.pointer (some ⟨gb, 0, none⟩), .pointer (some ⟨rb, 0, none⟩)] 65)) (wb + 1) _ _ _ w4.heap.size (owns_below hop4 hbA) (by simp; omega) hn
  have esz : (w4.alloc (.cells #[.pointer (some ⟨gb, 0, none⟩), .pointer (some ⟨rb, 0, none⟩)] 65)).heap.size = w4.heap.size + 1 := by show (w4.heap.push _).size = _; simp
  rw [esz] at hrun
  -- which old block the append turns
  have hrow : ∀ k, (Value.slice px L.length pc).ownBlock = some k → wb + 1 ≤ k ∧ ∃ cur : Array Value, w4.heap[k]? = some (.cells cur 66 (0, 0)) := fun k hk => (owns_lt hop4 k hk).2
  have keep : ∀ (k : Nat) (o : Obj), w4.heap[k]? = some o → (∀ cur : Array Value, o ≠ .cells cur 66 (0, 0)) → w5.heap[k]? = some o := by
    intro k o hk hne
    have e1 := hbA.block k (row_lt hk)
    rw [hg5.block k (by rw [esz]; have := row_lt hk; omega) ?_, e1]
    · exact hk
    · intro e
      obtain ⟨-, cur, hc⟩ := hrow k e.symm
      rw [hk] at hc; injection hc with hc
      exact hne cur hc
  have keep6 : ∀ (k : Nat) (o : Obj), w4.heap[k]? = some o → (∀ cur : Array Value, o ≠ .cells cur 66 (0, 0)) → k ≠ wb → (w5.setCell ⟨wb, 0, none⟩ (.slice (some ⟨g5, 0, none⟩) (L.length + 1) c5)).heap[k]? = some o := by
    intro k o hk hne hkw
    rw [Below.heap_setCell _ _ _ _ hkw]; exact keep k o hk hne
  have hlw5 : LwAt w5 wb (.slice px L.length pc) l1 l3 := keep wb _ hlw4 (by intro cur e; injection e with _ e; revert e; decide)
  have hsz5 : w4.heap.size + 1 ≤ w5.heap.size := by have := hg5.size; rw [esz] at this; exact this
  have sk46 : SK nobody w4 (w5.setCell ⟨wb, 0, none⟩ (.slice (some ⟨g5, 0, none⟩) (L.length + 1) c5)) := by
    refine ⟨by simp [World.setCell]; omega, fun k o hk h1 _ => keep6 k o hk ?_ ?_⟩
    · intro cur e; subst e; exact absurd h1 (by show ¬ mutT 66 = false; decide)
    · intro e; subst e; rw [hlw4] at hk; injection hk with hk; subst hk; exact absurd h1 (by show ¬ mutT 61 = false; decide)
  have sk06 := c.sk.trans sk46
  have hge5 : ∀ k, (Value.slice (some ⟨g5, 0, none⟩) (L.length + 1) c5).ownBlock = some k → k ≠ wb := fun k hk => by have := (owns_lt hop5 k hk).2.1; omega
  refine ⟨g5, c5, w5, hrun, row_cell hlw5 (j := 0) rfl, row_frozen hlw5 0, row_set hlw5 0 _, ?_, ?_, ?_, h.sep, ?_, ?_, ?_, h.three, fun k u hu => sk06.lfull (h.full1 k u hu), fun k j u h1 h2 h3 => sk06.fullB (h.full3 k j u h1 h2 h3), ?_, h.wbB⟩
  · rw [List.length_append, List.map_append]
    exact owns_to hop5 fun g hg => Below.heap_setCell _ _ _ _ (hge5 g hg)
  · exact owns_sl_sk ho14 fun k cur hk => by rw [hk]; exact keep6 k _ hk (by intro cur' e; injection e with _ e; revert e; decide) (by intro e; subst e; rw [hlw4] at hk; injection hk with hk; injection hk with _ hk; revert hk; decide)
  · exact owns_sl_sk ho34 fun k cur hk => by rw [hk]; exact keep6 k _ hk (by intro cur' e; injection e with _ e; revert e; decide) (by intro e; subst e; rw [hlw4] at hk; injection hk with hk; injection hk with _ hk; revert hk; decide)
  · intro p hp
    rcases List.mem_append.1 hp with hp | hp
    · exact (h.pairs p hp).keep sk06 (fun e => e) (fun e => e)
    · simp at hp
      subst hp
      have hpair : (w5.setCell ⟨wb, 0, none⟩ (.slice (some ⟨g5, 0, none⟩) (L.length + 1) c5)).heap[w4.heap.size]? = some (.cells [Value.pointer (some ⟨gb, 0, none⟩), .pointer (some ⟨rb, 0, none⟩)].toArray 65 (0, 0)) := by
        rw [Below.heap_setCell _ _ _ _ (by show w4.heap.size ≠ wb; omega), hg5.block w4.heap.size (by rw [esz]; omega) ?_]
        · exact alloc_new w4 [Value.pointer (some ⟨gb, 0, none⟩), .pointer (some ⟨rb, 0, none⟩)] _
        · intro e; obtain ⟨-, cur, hc⟩ := hrow _ e.symm; have := row_lt hc; omega
      exact ⟨hpair, sk46.block _ _ hpg (by show mutT 99 = false; decide) (Or.inr (fun e => e)), sk46.block _ _ hrg (by show mutT 124 = false; decide) (Or.inr (fun e => e)), sk46.mapAt hmap, sk46.rmap hrm, sk46.rules hru, ho, hf, Or.inl ⟨rfl, rfl⟩, Or.inl ⟨hnv, rfl⟩, List.Pairwise.nil, Nat.zero_le _, (by intro s hs; cases hs), rfl, rfl, hrc, hve.symm, Int.le_refl _, hV, Nat.le_trans hws hgw, Nat.le_trans hws hrw⟩
  · rw [List.map_append, List.nodup_append]
    refine ⟨h.gnd, by simp, fun a ha b hb e => ?_⟩
    simp at hb
    obtain ⟨p, hp, rfl⟩ := List.mem_map.1 ha
    have := row_lt (h.pairs p hp).pg
    omega
  · rw [List.map_append, List.nodup_append]
    refine ⟨h.rnd, by simp, fun a ha b hb e => ?_⟩
    simp at hb
    obtain ⟨p, hp, rfl⟩ := List.mem_map.1 ha
    have := row_lt (h.pairs p hp).rg
    omega
  · refine Below.setCell ?_ h.wbB _
    refine (hb4.trans (hbA.mono hb4.size)).grown hg5 (by rw [esz]; exact Nat.le_succ_of_le hb4.size) fun j hj => ?_
    have := (hrow j hj).1
    have := h.wbB
    omega

/-- what both Opens answer. -/
def openRes (xs : List ByteArray) (wk qu : Int) : Option (Nat × Int) := if argsBad xs.length wk qu then some (0, 1) else openErr xs
theorem openRes_code {xs : List ByteArray} {wk qu : Int} {k : Nat} {c : Int} (h : openRes xs wk qu = some (k, c)) : c ≠ 0 := by
  unfold openRes at h
  split at h
  · injection h with h; injection h with _ h; omega
  · exact openErr_code h
theorem ghOpen_err (v : Value) (xs : List ByteArray) (wk qu : Int) (w : World) (h : StrsAt w v xs) (hl : xs.length ≤ maxLen) {k : Nat} {c : Int} (hr : openRes xs wk qu = some (k, c)) :
    Calls Tryz.prog 26 #[v, .int .i64 wk, .int .i64 qu] w fun e w' => e = .returned (.tuple #[.pointer none, .int .i64 k, .int .i64 c]) ∧ Below w.heap.size w w' := by
  refine (ghOpen_any v xs wk qu w h hl).mono ?_
  rintro e w' ⟨hb, ⟨h1, rfl⟩ | ⟨h1, ⟨k', c', h2, rfl⟩ | ⟨h2, -⟩⟩⟩ <;> unfold openRes at hr <;> rw [h1] at hr
  · injection hr with hr; injection hr with a b; subst a; subst b; exact ⟨rfl, hb⟩
  · simp only [Bool.false_eq_true, if_false] at hr
    rw [h2] at hr; injection hr with hr; injection hr with a b; subst a; subst b; exact ⟨rfl, hb⟩
  · simp only [Bool.false_eq_true, if_false] at hr
    rw [h2] at hr; cases hr
theorem refOpen_err (v : Value) (xs : List ByteArray) (wk qu : Int) (w : World) (h : StrsAt w v xs) (hl : xs.length ≤ maxLen) (hsz : ∀ x ∈ xs, x.size ≤ maxLen) {k : Nat} {c : Int} (hr : openRes xs wk qu = some (k, c)) :
    Calls Tryz.prog 70 #[v, .int .i64 wk, .int .i64 qu] w fun e w' => e = .returned (.tuple #[.pointer none, .int .i64 k, .int .i64 c]) ∧ Below w.heap.size w w' := by
  refine (refOpen_any v xs wk qu w h hl hsz).mono ?_
  rintro e w' ⟨hb, ⟨h1, rfl⟩ | ⟨h1, ⟨k', c', h2, rfl⟩ | ⟨h2, -⟩⟩⟩ <;> unfold openRes at hr <;> rw [h1] at hr
  · injection hr with hr; injection hr with a b; subst a; subst b; exact ⟨rfl, hb⟩
  · simp only [Bool.false_eq_true, if_false] at hr
    rw [h2] at hr; injection hr with hr; injection hr with a b; subst a; subst b; exact ⟨rfl, hb⟩
  · simp only [Bool.false_eq_true, if_false] at hr
    rw [h2] at hr; cases hr
theorem openRes_none {xs : List ByteArray} {wk qu : Int} (hr : openRes xs wk qu = none) : openErr xs = none ∧ argsBad xs.length wk qu = false ∧ xs.length ≤ 12 := by
  unfold openRes at hr
  cases h : argsBad xs.length wk qu
  · rw [h] at hr
    refine ⟨by simpa using hr, rfl, ?_⟩
    unfold argsBad at h
    simp at h; omega
  · rw [h] at hr; cases hr
/-- a gate of the program's that there is. -/
def PGood (xs : List ByteArray) (w w' : World) (b : Nat) : Prop := ∃ mb m dk, w.heap.size ≤ b ∧ PgAt w' b ⟨0, mb, .slice none 0 0, 0, dk, false⟩ ∧ MapAt w' HeadG mb m ∧ RMap w' w.heap.size xs m
def RGood (xs : List ByteArray) (w w' : World) (b : Nat) : Prop := ∃ r : Rg, w.heap.size ≤ b ∧ RgAt w' b r ∧ w'.ownsRow w.heap.size 163 2 r.rulesV (ruleOfs xs).length (flR (ruleOfs xs)) ∧ r.nowV = .slice none 0 0 ∧ r.version = 0 ∧ r.closed = false
theorem ghOpen_ok (v : Value) (xs : List ByteArray) (wk qu : Int) (w : World) (h : StrsAt w v xs) (hl : xs.length ≤ maxLen) (hr : openRes xs wk qu = none) :
    Calls Tryz.prog 26 #[v, .int .i64 wk, .int .i64 qu] w fun e w' => ∃ b, e = .returned (.tuple #[.pointer (some ⟨b, 0, none⟩), .int .i64 0, .int .i64 0]) ∧ Below w.heap.size w w' ∧ PGood xs w w' b := by
  obtain ⟨e1, e2, -⟩ := openRes_none hr
  refine (ghOpen_any v xs wk qu w h hl).mono ?_
  rintro e w' ⟨hb, ⟨h1, -⟩ | ⟨-, ⟨k', c', h2, -⟩ | ⟨-, b, mb, m, db, rfl, hbb, hh, -, hm, hrm, -⟩⟩⟩
  · rw [e2] at h1; cases h1
  · rw [e1] at h2; cases h2
  · exact ⟨b, rfl, hb, mb, m, _, hbb, hh, hm, hrm⟩
theorem refOpen_ok (v : Value) (xs : List ByteArray) (wk qu : Int) (w : World) (h : StrsAt w v xs) (hl : xs.length ≤ maxLen) (hsz : ∀ x ∈ xs, x.size ≤ maxLen) (hr : openRes xs wk qu = none) :
    Calls Tryz.prog 70 #[v, .int .i64 wk, .int .i64 qu] w fun e w' => ∃ b, e = .returned (.tuple #[.pointer (some ⟨b, 0, none⟩), .int .i64 0, .int .i64 0]) ∧ Below w.heap.size w w' ∧ RGood xs w w' b := by
  obtain ⟨e1, e2, -⟩ := openRes_none hr
  refine (refOpen_any v xs wk qu w h hl hsz).mono ?_
  rintro e w' ⟨hb, ⟨h1, -⟩ | ⟨-, ⟨k', c', h2, -⟩ | ⟨-, b, rv, wb, n, rfl, hbb, hrg, hru, -⟩⟩⟩
  · rw [e2] at h1; cases h1
  · rw [e1] at h2; cases h2
  · exact ⟨b, rfl, hb, _, hbb, hrg, hru, rfl, rfl, rfl⟩

end Go.Proofs.YtalmoiogbdahcaaGreat
