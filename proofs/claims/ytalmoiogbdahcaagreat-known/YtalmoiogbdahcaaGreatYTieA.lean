import Derived.Test.YtalmoiogbdahcaaGreatYRefA
import Derived.Test.YtalmoiogbdahcaaGreatYNumB
import Derived.Test.YtalmoiogbdahcaaGreatYEntA
namespace Go.Proofs.YtalmoiogbdahcaaGreat
set_option maxRecDepth 100000
set_option maxHeartbeats 8000000
open Go.RowKit
abbrev ixOf {α : Type} [DecidableEq α] (l : List α) (a : α) : Nat := l.idxOf a
theorem ixOf_lt {α : Type} [DecidableEq α] {l : List α} {a : α} (h : a ∈ l) : ixOf l a < l.length := List.idxOf_lt_length_iff.2 h
structure TS where
 ths : List Nod
 rels : List ByteArray
 uss : List Nod
def Kn (S : TS) (x : Nod) : Prop := x.th ∈ S.ths /\ x.r ∈ S.rels
def cxN (S : TS) (x : Nod) : Value := cxV (ixOf S.ths x.th) (ixOf S.rels x.r)
structure TS.le (S S' : TS) : Prop where
 ths : S.ths <+: S'.ths
 rels : S.rels <+: S'.rels
theorem TS.le.refl (S : TS) : S.le S := ⟨List.prefix_refl _, List.prefix_refl _⟩
theorem TS.le.trans {A B C : TS} (h : A.le B) (k : B.le C) : A.le C := ⟨h.ths.trans k.ths, h.rels.trans k.rels⟩
theorem prefix_idx {α : Type} [DecidableEq α] {l l' : List α} (h : l <+: l') {a : α} (ha : a ∈ l) : ixOf l' a = ixOf l a := by
 obtain ⟨t, rfl⟩ := h
 unfold ixOf
 rw [List.idxOf_append, if_pos ha]
theorem Kn.le {S S' : TS} (h : S.le S') {x : Nod} (k : Kn S x) : Kn S' x := ⟨h.ths.subset k.1, h.rels.subset k.2⟩
theorem cxN_le {S S' : TS} (h : S.le S') {x : Nod} (k : Kn S x) : cxN S' x = cxN S x := by
 unfold cxN; rw [prefix_idx h.ths k.1, prefix_idx h.rels k.2]
theorem idx_inj {α : Type} [DecidableEq α] {l : List α} {a b : α} (ha : a ∈ l) (hb : b ∈ l) (h : ixOf l a = ixOf l b) : a = b := by
 have h1 := List.getElem_idxOf (List.idxOf_lt_length_iff.2 ha)
 have h2 := List.getElem_idxOf (List.idxOf_lt_length_iff.2 hb)
 rw [← h1, ← h2]
 congr 1
theorem nod_ext {x y : Nod} (h1 : x.th = y.th) (h2 : x.r = y.r) : x = y := by
 obtain ⟨a, b, c⟩ := x
 obtain ⟨d, e, f⟩ := y
 unfold Nod.th at h1
 simp at h1 h2
 obtain ⟨rfl, rfl⟩ := h1
 subst h2; rfl
structure TS.Ok (U : List ByteArray) (S : TS) : Prop where
 tl : S.ths.length <= 4000
 ul : U.length <= 8000
 rn : S.rels.Nodup
 rU : ∀ r ∈ S.rels, r ∈ U
 r0 : ∃ l, S.rels = noneB :: l
 tn : ∀ x ∈ S.ths, x.r = noneB
 un : ∀ x ∈ S.uss, x.isTh = true
 Us : ∀ r ∈ U, r.size <= maxLen
theorem nodup_sub_len {α : Type} [DecidableEq α] : ∀ (l u : List α), l.Nodup -> (∀ a ∈ l, a ∈ u) -> l.length <= u.length := by
 intro l
 induction l with
 | nil => intro u _ _; simp
 | cons a l ih =>
  intro u hn hs
  rw [List.nodup_cons] at hn
  have ha : a ∈ u := hs a (by simp)
  have h1 := ih (u.erase a) hn.2 (fun b hb => (List.mem_erase_of_ne (by intro e; subst e; exact hn.1 hb)).2 (hs b (by simp [hb])))
  rw [List.length_erase_of_mem ha] at h1
  have : 0 < u.length := List.length_pos_of_mem ha
  simp only [List.length_cons]; omega
theorem TS.Ok.rl {U : List ByteArray} {S : TS} (h : S.Ok U) : S.rels.length <= 8000 := Nat.le_trans (nodup_sub_len _ _ h.rn h.rU) h.ul
theorem TS.Ok.lt {U : List ByteArray} {S : TS} (h : S.Ok U) {x : Nod} (k : Kn S x) : ixOf S.ths x.th < 8192 /\ ixOf S.rels x.r < 8192 := by
 have h1 := ixOf_lt k.1
 have h2 := ixOf_lt k.2
 have := h.tl; have := h.rl
 omega
theorem TS.Ok.good {U : List ByteArray} {S : TS} (h : S.Ok U) {x : Nod} (k : Kn S x) : CxG (cxN S x) := ⟨_, _, (h.lt k).1, (h.lt k).2, rfl⟩
theorem TS.Ok.inj {U : List ByteArray} {S : TS} (h : S.Ok U) {x y : Nod} (kx : Kn S x) (ky : Kn S y) (e : cxN S x = cxN S y) : x = y := by
 obtain ⟨e1, e2⟩ := cxV_inj (h.lt kx).1 (h.lt kx).2 (h.lt ky).1 (h.lt ky).2 e
 exact nod_ext (idx_inj kx.1 ky.1 e1) (idx_inj kx.2 ky.2 e2)
structure TL where
 mb : Nat
 nt : Nat
 mt : Nat
 st : Value
 nr : Nat
 mr : Nat
 sr : Value
 nu : Nat
 mu : Nat
 su : Value
 ms : Nat
 mw : Nat
def tieL (L : TL) : List Value := [.map (some L.mb), .pointer (some ⟨L.nt, 0, none⟩), .pointer (some ⟨L.nr, 0, none⟩), .pointer (some ⟨L.nu, 0, none⟩), .map (some L.ms), .map (some L.mw)]
def KeyN (S : TS) (m : List (Value × Value)) : Prop := ∀ p ∈ m, ∃ x, Kn S x /\ p.1 = cxN S x
def SubM (S : TS) (m : List (Value × Value)) (f : Nod -> Option Value) : Prop := KeyN S m /\ (∀ x, Kn S x -> getM m (cxN S x) = f x) /\ ∀ x, ¬ Kn S x -> f x = none
def WhoM (S : TS) (m : List (Value × Value)) (who : Nod -> Nat) : Prop := KeyN S m /\ (∀ x, Kn S x -> (getM m (cxN S x)).getD (.int .u64 0) = .int .u64 (who x)) /\ (∀ x, ¬ Kn S x -> who x = 0) /\ ∀ p ∈ m, ∃ c : Nat, p.2 = .int .u64 c
theorem KeyN.le {S S' : TS} {m : List (Value × Value)} (h : KeyN S m) (hl : S.le S') : KeyN S' m := fun p hp => by
 obtain ⟨x, k, e⟩ := h p hp
 exact ⟨x, k.le hl, by rw [cxN_le hl k]; exact e⟩
theorem KeyN.new {U : List ByteArray} {S S' : TS} {m : List (Value × Value)} (h : KeyN S m) (hl : S.le S') (ok : S'.Ok U) {x : Nod} (kx : Kn S' x) (hx : ¬ Kn S x) : getM m (cxN S' x) = none := by
 refine getM_none fun p hp e => ?_
 obtain ⟨y, k, e2⟩ := h p hp
 rw [e2, ← cxN_le hl k] at e
 exact hx ((ok.inj (k.le hl) kx e) ▸ k)
theorem SubM.le {U : List ByteArray} {S S' : TS} {m : List (Value × Value)} {f : Nod -> Option Value} (h : SubM S m f) (hl : S.le S') (ok : S'.Ok U) : SubM S' m f := by
 refine ⟨h.1.le hl, fun x kx => ?_, fun x kx => h.2.2 x fun k => kx (k.le hl)⟩
 by_cases k : Kn S x
 ·rw [cxN_le hl k]; exact h.2.1 x k
 ·rw [h.1.new hl ok kx k, h.2.2 x k]
theorem WhoM.le {U : List ByteArray} {S S' : TS} {m : List (Value × Value)} {f : Nod -> Nat} (h : WhoM S m f) (hl : S.le S') (ok : S'.Ok U) : WhoM S' m f := by
 refine ⟨h.1.le hl, fun x kx => ?_, fun x kx => h.2.2.1 x fun k => kx (k.le hl), h.2.2.2⟩
 by_cases k : Kn S x
 ·rw [cxN_le hl k]; exact h.2.1 x k
 ·rw [h.1.new hl ok kx k, h.2.2.1 x k]; rfl
structure TiesAt (U : List ByteArray) (w : World) (lo tb : Nat) (L : TL) (S : TS) (f : Nod -> Option Value) (who : Nod -> Nat) : Prop where
 blk : w.heap[tb]? = some (.cells (tieL L).toArray 182 (0, 0))
 th : NumNd w lo L.nt L.mt L.st S.ths
 rl : NumSt Value.string w lo L.nr L.mr L.sr S.rels
 us : NumNd w lo L.nu L.mu L.su S.uss
 sub : ∃ m, EntAt w CxG L.ms m /\ SubM S m f
 wh : ∃ m, MapAt w CxG L.mw m /\ WhoM S m who
 ok : S.Ok U
 maps : [L.mb, L.mt, L.mr, L.mu, L.ms, L.mw].Nodup
 ntu : L.nt ≠ L.nu
 stu : ∀ k, L.st.ownBlock = some k -> L.su.ownBlock ≠ some k
 lob : lo <= tb
 los : lo <= L.ms
 low : lo <= L.mw
def relX (L : TL) (k : Nat) : Prop := numX L.nr L.mr L.sr k
structure SubAt (w : World) (lo sb : Nat) (S : TS) (ts : List (Nod × Nod)) (f : Nod -> Option Value) : Prop where
 row : ∀ x v, f x = some v -> w.ownsRow lo 136 1 v (subsOf ts x).length ((subsOf ts x).map (cxN S)) /\ ∀ k, v.ownBlock = some k -> k < sb
 no : ∀ x, f x = none -> subsOf ts x = []
 kn : ∀ t ∈ ts, Kn S t.1 /\ Kn S t.2
 apart : ∀ x y v u k, f x = some v -> f y = some u -> v.ownBlock = some k -> u.ownBlock = some k -> x = y
theorem SubAt.known {w : World} {lo sb : Nat} {S : TS} {ts : List (Nod × Nod)} {f : Nod -> Option Value} (h : SubAt w lo sb S ts f) {x y : Nod} (hy : y ∈ subsOf ts x) : Kn S y := (h.kn _ (mem_subsOf.1 hy)).2
theorem SubAt.le {w : World} {lo sb : Nat} {S S' : TS} {ts : List (Nod × Nod)} {f : Nod -> Option Value} (h : SubAt w lo sb S ts f) (hl : S.le S') : SubAt w lo sb S' ts f := by
 refine ⟨fun x v hv => ?_, h.no, fun t ht => ⟨(h.kn t ht).1.le hl, (h.kn t ht).2.le hl⟩, h.apart⟩
 have e : (subsOf ts x).map (cxN S') = (subsOf ts x).map (cxN S) := List.map_congr_left fun y hy => cxN_le hl (h.known hy)
 rw [e]
 exact h.row x v hv
theorem SubAt.keep {w w' : World} {lo sb : Nat} {S : TS} {ts : List (Nod × Nod)} {f : Nod -> Option Value} (h : SubAt w lo sb S ts f) {X : Nat -> Prop} (hf : Frm X w w') (hx : ∀ k, k < sb -> X k -> ∀ cur : Array Value, w.heap[k]? ≠ some (.cells cur 136 (0, 0))) : SubAt w' lo sb S ts f := by
 refine ⟨fun x v hv => ⟨owns_to (h.row x v hv).1 fun g hg => ?_, (h.row x v hv).2⟩, h.no, h.kn, h.apart⟩
 obtain ⟨h1, -, cur, h2⟩ := owns_lt (h.row x v hv).1 g hg
 exact hf.block g h1 fun e => hx g ((h.row x v hv).2 g hg) e cur h2
theorem maps_ne {a b c d e f : Nat} (h : [a, b, c, d, e, f].Nodup) : (a ≠ b /\ a ≠ c /\ a ≠ d /\ a ≠ e /\ a ≠ f) /\ (b ≠ c /\ b ≠ d /\ b ≠ e /\ b ≠ f) /\ (c ≠ d /\ c ≠ e /\ c ≠ f) /\ (d ≠ e /\ d ≠ f) /\ e ≠ f := by
 simp only [List.nodup_cons, List.mem_cons, List.not_mem_nil, or_false, not_or, not_false_eq_true, List.nodup_nil, and_true] at h
 obtain ⟨⟨h1, h2, h3, h4, h5⟩, ⟨h6, h7, h8, h9⟩, ⟨h10, h11, h12⟩, ⟨h13, h14⟩, h15⟩ := h
 exact ⟨⟨h1, h2, h3, h4, h5⟩, ⟨h6, h7, h8, h9⟩, ⟨h10, h11, h12⟩, ⟨h13, h14⟩, h15⟩
structure RStep (U : List ByteArray) (lo tb : Nat) (f : Nod -> Option Value) (who : Nod -> Nat) (L : TL) (S : TS) (w : World) (L' : TL) (S' : TS) (w' : World) : Prop where
 at' : TiesAt U w' lo tb L' S' f who
 fr : Frm (relX L) w w'
 own : ∀ k, L'.sr.ownBlock = some k -> L.sr.ownBlock = some k \/ w.heap.size <= k
 loc : L' = { L with sr := L'.sr }
 ths : S'.ths = S.ths
 uss : S'.uss = S.uss
 pre : S.rels <+: S'.rels
theorem RStep.le {U : List ByteArray} {lo tb : Nat} {f : Nod -> Option Value} {who : Nod -> Nat} {L L' : TL} {S S' : TS} {w w' : World} (h : RStep U lo tb f who L S w L' S' w') : S.le S' := ⟨by rw [h.ths]; exact List.prefix_refl _, h.pre⟩
theorem RStep.trans {U : List ByteArray} {lo tb : Nat} {f : Nod -> Option Value} {who : Nod -> Nat} {L L' L'' : TL} {S S' S'' : TS} {w w' w'' : World} (h : RStep U lo tb f who L S w L' S' w') (k : RStep U lo tb f who L' S' w' L'' S'' w'') : RStep U lo tb f who L S w L'' S'' w'' := by
 refine ⟨k.at', h.fr.trans k.fr ?_, ?_, by rw [k.loc, h.loc], k.ths.trans h.ths, k.uss.trans h.uss, h.pre.trans k.pre⟩
 ·intro j hj hx
  rcases hx with e | e | e
  ·rw [h.loc] at e; exact Or.inl e
  ·rw [h.loc] at e; exact Or.inr (Or.inl e)
  ·rcases h.own j e with e | e
   ·exact Or.inr (Or.inr e)
   ·omega
 ·intro j hj
  rcases k.own j hj with e | e
  ·exact h.own j e
  ·exact Or.inr (Nat.le_trans h.fr.size e)
theorem TiesAt.below {U : List ByteArray} {w w' : World} {lo tb : Nat} {L : TL} {S : TS} {f : Nod -> Option Value} {who : Nod -> Nat} (h : TiesAt U w lo tb L S f who) (hb : Below w.heap.size w w') : TiesAt U w' lo tb L S f who := by
 have hf : Frm (fun _ => False) w w' := Frm.of_below hb
 obtain ⟨ms, hs1, hs2⟩ := h.sub
 obtain ⟨mw, hw1, hw2⟩ := h.wh
 exact ⟨(hb.block _ (row_lt h.blk)).trans h.blk, h.th.keep hf (fun _ _ e => e), h.rl.keep hf (fun _ _ e => e), h.us.keep hf (fun _ _ e => e), ⟨ms, hs1.move (hb.block _ hs1.lt), hs2⟩, ⟨mw, hw1.move (hb.block _ hw1.lt), hw2⟩, h.ok, h.maps, h.ntu, h.stu, h.lob, h.los, h.low⟩
theorem RStep.below {U : List ByteArray} {lo tb : Nat} {f : Nod -> Option Value} {who : Nod -> Nat} {L : TL} {S : TS} {w w' : World} (h : TiesAt U w lo tb L S f who) (hb : Below w.heap.size w w') : RStep U lo tb f who L S w L S w' :=
 ⟨h.below hb, Frm.of_below hb, fun _ hk => Or.inl hk, rfl, rfl, rfl, List.prefix_refl _⟩
theorem SubAt.rstep {U : List ByteArray} {lo tb sb : Nat} {ts : List (Nod × Nod)} {f : Nod -> Option Value} {who : Nod -> Nat} {L L' : TL} {S S' : TS} {w w' : World} (h : SubAt w lo sb S ts f) (h0 : TiesAt U w lo tb L S f who) (r : RStep U lo tb f who L S w L' S' w') : SubAt w' lo sb S' ts f := by
 refine (h.keep r.fr ?_).le r.le
 intro k _ hx cur e
 rcases h0.rl.kind hx e with e | e <;> revert e <;> decide
theorem TiesAt.rel {U : List ByteArray} {w w' : World} {lo tb : Nat} {L : TL} {S : TS} {f : Nod -> Option Value} {who : Nod -> Nat} (h : TiesAt U w lo tb L S f who) {r : ByteArray} (hr : r ∈ U) {e : Ending} (hp : NumStPost Value.string w lo L.nr L.mr L.sr S.rels r e w') :
  e = .returned (.int .i64 (ixOf (addN S.rels r) r : Nat)) /\ ∃ sr', RStep U lo tb f who L S w { L with sr := sr' } { S with rels := addN S.rels r } w' := by
 obtain ⟨he, sr', hn, hf, ho⟩ := hp
 refine ⟨he, sr', ⟨?_, hf, ho, rfl, rfl, rfl, addN_prefix _ _⟩⟩
 obtain ⟨⟨a1, a2, a3, a4, a5⟩, ⟨b1, b2, b3, b4⟩, ⟨c1, c2, c3⟩, ⟨d1, d2⟩, e1⟩ := maps_ne h.maps
 have kC : ∀ (k : Nat) (cur : Array Value) (t : TypeId), w.heap[k]? = some (.cells cur t (0, 0)) -> t ≠ 223 -> t ≠ 9 -> w'.heap[k]? = w.heap[k]? := by
  intro k cur t hk t1 t2
  refine hf.block k (row_lt hk) fun hx => ?_
  rcases h.rl.kind hx hk with e | e
  ·exact t1 e
  ·exact t2 e
 have kM : ∀ (k : Nat) (Gd : Value -> Prop) (m : List (Value × Value)), MapAt w Gd k m -> k ≠ L.mr -> w'.heap[k]? = w.heap[k]? := fun k Gd m hk hne => hf.block k hk.lt fun hx => hne (h.rl.kindM hx hk)
 have kN : ∀ {nb mb : Nat} {sv : Value} {vs : List Nod}, NumNd w lo nb mb sv vs -> mb ≠ L.mr -> NumNd w' lo nb mb sv vs := by
  intro nb mb sv vs hh hne
  refine ⟨(kC nb _ _ hh.blk (by decide) (by decide)).trans hh.blk, hh.map.move (kM mb _ _ hh.map hne), owns_to hh.row fun g hg => ?_, hh.nd, hh.lob, hh.lom⟩
  obtain ⟨-, -, cur, q⟩ := owns_lt hh.row g hg
  exact kC g cur _ q (by decide) (by decide)
 have ok' : TS.Ok U { S with rels := addN S.rels r } := by
  refine ⟨h.ok.tl, h.ok.ul, addN_nodup h.ok.rn r, ?_, ?_, h.ok.tn, h.ok.un, h.ok.Us⟩
  ·intro q hq
   rcases mem_addN.1 hq with hq | hq
   ·exact h.ok.rU q hq
   ·rw [hq]; exact hr
  ·obtain ⟨l, hl⟩ := h.ok.r0
   obtain ⟨t, ht⟩ := addN_prefix S.rels r
   exact ⟨l ++ t, by show addN S.rels r = _; rw [← ht, hl]; rfl⟩
 have hle : TS.le S { S with rels := addN S.rels r } := ⟨List.prefix_refl _, addN_prefix _ _⟩
 obtain ⟨ms, hs1, hs2⟩ := h.sub
 obtain ⟨mw, hw1, hw2⟩ := h.wh
 exact ⟨(kC tb _ _ h.blk (by decide) (by decide)).trans h.blk, kN h.th b1, hn, kN h.us (Ne.symm c1), ⟨ms, hs1.move (kM _ _ _ hs1.map (Ne.symm c2)), hs2.le hle ok'⟩, ⟨mw, hw1.move (kM _ _ _ hw1 (Ne.symm c3)), hw2.le hle ok'⟩, ok', h.maps, h.ntu, h.stu, h.lob, h.los, h.low⟩
theorem fb_zero : fb 0 = 0 := by decide +kernel
theorem isThing_cx (i j : Nat) (hj : j < 8192) (w : World) : Calls Tryz.prog 181 #[.complex .f64 (fb i) (fb j)] w fun e w' => e = .returned (.bool (decide (j = 0))) /\ w' = w := by
 have ho : (FloatKind.f64.format.order (fb j) 0 == some .eq) = decide (j = 0) := by
  have := order_fb hj (b := 0) (by omega)
  rw [fb_zero] at this
  exact this
 generalize decide (j = 0) = q at *
 go_enter Tryz.func181, Tryz.ntmps181
 go_wp2
 go_ret
 exact ⟨rfl, rfl⟩
theorem Kn.zero {U : List ByteArray} {S : TS} (ok : S.Ok U) {x : Nod} (k : Kn S x) : decide (ixOf S.rels x.r = 0) = x.isTh := by
 obtain ⟨l, hl⟩ := ok.r0
 unfold Nod.isTh
 by_cases h : x.r = noneB
 ·rw [h, hl]; simp [ixOf]
 ·rw [decide_eq_false h, decide_eq_false]
  intro e
  refine h (idx_inj k.2 (by rw [hl]; simp) ?_)
  rw [e, hl]; simp [ixOf]
theorem cxThing_any {U : List ByteArray} {S : TS} (ok : S.Ok U) {x : Nod} (k : Kn S x) (w : World) : Calls Tryz.prog 181 #[cxN S x] w fun e w' => e = .returned (.bool x.isTh) /\ w' = w := by
 rw [← k.zero ok]
 exact isThing_cx _ _ (ok.lt k).2 w
theorem beside_any {U : List ByteArray} {w : World} {lo tb : Nat} {L : TL} {S : TS} {f : Nod -> Option Value} {who : Nod -> Nat} (h : TiesAt U w lo tb L S f who) {x : Nod} (hx : x.th ∈ S.ths) {r : ByteArray} (hr : r ∈ U) (q : Nat) :
  Calls Tryz.prog 228 #[.pointer (some ⟨tb, 0, none⟩), .complex .f64 (fb (ixOf S.ths x.th)) q, .string r] w fun e w' => ∃ L' S', e = .returned (cxN S' (x.to r)) /\ Kn S' (x.to r) /\ RStep U lo tb f who L S w L' S' w' := by
 have hlo : lo <= w.heap.size := Nat.le_trans h.lob (Nat.le_of_lt (row_lt h.blk))
 have HN : Hid (Calls Tryz.prog 138 #[.pointer (some ⟨L.nr, 0, none⟩), .string r] w (NumStPost Value.string w lo L.nr L.mr L.sr S.rels r)) :=
  numSt_any Value.string r r rfl h.rl ⟨r, rfl, h.ok.Us r hr⟩ (fun a _ e => by injection e) hlo (by have := h.ok.rl; omega)
 have c2 := row_cell h.blk (j := 2) rfl
 have HP : Hid (∀ e w', NumStPost Value.string w lo L.nr L.mr L.sr S.rels r e w' -> e = .returned (.int .i64 (ixOf (addN S.rels r) r : Nat)) /\ ∃ L' S', (Value.complex .f64 (fb (ixOf S.ths x.th)) (fb (ixOf (addN S.rels r) r))) = cxN S' (x.to r) /\ Kn S' (x.to r) /\ RStep U lo tb f who L S w L' S' w') := by
  intro e w' hp
  obtain ⟨he, sr', hs⟩ := h.rel hr hp
  exact ⟨he, _, { S with rels := addN S.rels r }, rfl, ⟨hx, mem_addN.2 (Or.inr rfl)⟩, hs⟩
 clear h
 generalize ixOf (addN S.rels r) r = n at *
 generalize fb (ixOf S.ths x.th) = p at *
 go_enter Tryz.func228, Tryz.ntmps228
 go_wp2_with (go_at_call 138; refine HN.out.mono ?_; rintro e w1 hp; have hp2 := HP.out e w1 hp; clear hp; obtain ⟨rfl, hp3⟩ := hp2)
 go_ret
 obtain ⟨L', S', h1, h2, h3⟩ := hp3
 exact ⟨L', S', congrArg Ending.returned h1, h2, h3⟩
end Go.Proofs.YtalmoiogbdahcaaGreat
