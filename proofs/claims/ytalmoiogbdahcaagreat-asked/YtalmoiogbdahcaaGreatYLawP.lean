import Derived.Test.YtalmoiogbdahcaaGreatYGhG
namespace Go.Proofs.YtalmoiogbdahcaaGreat
set_option maxRecDepth 100000
set_option maxHeartbeats 8000000
open Go.RowKit
def wrRes (rs : List (ByteArray × ByteArray)) (now xs : List ByteArray) : Sum (Nat × Int) (List ByteArray) := if 20 < xs.length then .inl (0, 6) else batchL rs now 0 xs
def wrV (ver : Int) : Sum (Nat × Int) (List ByteArray) -> Int
 | .inl _ => 0
 | .inr ys => if 50 < ys.length then 0 else ver + 1
def wrA : Sum (Nat × Int) (List ByteArray) -> Int
 | .inl (i, _) => i
 | .inr _ => 0
def wrE : Sum (Nat × Int) (List ByteArray) -> Int
 | .inl (_, f) => f
 | .inr ys => if 50 < ys.length then 6 else 0
theorem done_sorted {now : List ByteArray} (h : Sorted now) (s : ByteArray) : Sorted (doneS now s) := by
 obtain ⟨i, hi⟩ := place_ex h (s.extract 1 s.size)
 exact with_sorted h hi _
theorem batch_sorted (rs : List (ByteArray × ByteArray)) : ∀ (xs now : List ByteArray) (i : Nat) (ys : List ByteArray), Sorted now -> batchL rs now i xs = .inr ys -> Sorted ys := by
 intro xs
 induction xs with
 | nil => intro now i ys h e; injection e with e; subst e; exact h
 | cons s l ih =>
  intro now i ys h e
  unfold batchL at e
  split at e
  ·exact ih _ _ _ (done_sorted h s) e
  ·cases e
theorem wr_sorted {rs : List (ByteArray × ByteArray)} {now xs ys : List ByteArray} (h : Sorted now) (e : wrRes rs now xs = .inr ys) : Sorted ys := by
 unfold wrRes at e
 split at e
 ·cases e
 ·exact batch_sorted rs _ _ _ _ h e
theorem with_mem (s : ByteArray) : ∀ (xs : List ByteArray) (q : Bool × List ByteArray) (y : ByteArray), y ∈ (xs.foldl (withStep s) q).2 -> y ∈ q.2 \/ y ∈ xs \/ y = s := by
 intro xs
 induction xs with
 | nil => intro q y h; exact Or.inl h
 | cons x xs ih =>
  intro q y h
  rw [List.foldl_cons] at h
  rcases ih _ _ h with h | h | h
  ·unfold withStep at h
   dsimp only at h
   rcases List.mem_append.1 h with h | h
   ·split at h
    ·rcases List.mem_append.1 h with h | h
     ·exact Or.inl h
     ·exact Or.inr (Or.inr (List.mem_singleton.1 h))
    ·exact Or.inl h
   ·split at h
    ·exact Or.inr (Or.inl (by rw [List.mem_singleton.1 h]; exact List.mem_cons_self ..))
    ·cases h
  ·exact Or.inr (Or.inl (List.mem_cons_of_mem _ h))
  ·exact Or.inr (Or.inr h)
theorem withL_mem {xs : List ByteArray} {s : ByteArray} {b : Bool} {y : ByteArray} (h : y ∈ withL xs s b) : y ∈ xs \/ y = s := by
 unfold withL at h
 rcases List.mem_append.1 h with h | h
 ·rcases with_mem s xs _ y h with h | h | h
  ·cases h
  ·exact Or.inl h
  ·exact Or.inr h
 ·split at h
  ·exact Or.inr (List.mem_singleton.1 h)
  ·cases h
theorem faultS_good {rs : List (ByteArray × ByteArray)} {s : ByteArray} (h : faultS rs s = 0) : goodT rs (s.extract 1 s.size) := by
 unfold faultS at h
 split at h
 ·cases h
 ·split at h
  ·cases h
  ·rename_i h2
   split at h
   ·cases h
   ·rename_i h3
    refine ⟨by simpa using h2, fun e => h3 (Or.inl e), fun e1 e2 => h3 (Or.inr ⟨e1, e2⟩)⟩
theorem batch_good (rs : List (ByteArray × ByteArray)) : ∀ (xs now : List ByteArray) (i : Nat) (ys : List ByteArray), (∀ s ∈ now, goodT rs s) -> batchL rs now i xs = .inr ys -> ∀ s ∈ ys, goodT rs s := by
 intro xs
 induction xs with
 | nil => intro now i ys h e; injection e with e; subst e; exact h
 | cons s l ih =>
  intro now i ys h e
  unfold batchL at e
  split at e
  ·rename_i hf
   refine ih _ _ _ ?_ e
   intro y hy
   rcases withL_mem hy with h1 | h1
   ·exact h y h1
   ·rw [h1]; exact faultS_good hf
  ·cases e
theorem wr_good {rs : List (ByteArray × ByteArray)} {now xs ys : List ByteArray} (h : ∀ s ∈ now, goodT rs s) (e : wrRes rs now xs = .inr ys) : ∀ s ∈ ys, goodT rs s := by
 unfold wrRes at e
 split at e
 ·cases e
 ·exact batch_good rs _ _ _ _ h e
theorem strT_ne {w : World} {v : Value} {xs : List ByteArray} {b : Nat} {cs : Array Value} {t : TypeId} (h : StrT w v xs) (hb : w.heap[b]? = some (.cells cs t (0, 0))) (ht : t ≠ 9) : ∀ a n c, v = .slice (some a) n c -> a.block ≠ b := by
 intro a n c e hab
 rcases h with ⟨rfl, -⟩ | ⟨b', cap, cur, rfl, hh, -⟩
 ·cases e
 ·injection e with e1 e2 e3
  injection e1 with e1
  subst e1
  dsimp only at hab
  subst hab
  rw [hb] at hh
  injection hh with hh
  injection hh with _ hh
  exact ht hh
theorem pw_ret {w w' : World} {b : Nat} {g : Pg} {r : Sum (Nat × Int) (List ByteArray)} {e : Ending} (h : PWPost w b g r e w') : e = .returned (.tuple #[.int .i64 (wrV g.ver r), .int .i64 (wrA r), .int .i64 (wrE r)]) := by
 obtain ⟨-, h⟩ := h
 rcases r with ⟨i, f⟩ | ys
 ·exact h.1
 ·dsimp only at h
  unfold wrV wrA wrE
  split at h
  ·rename_i h5; dsimp only; rw [if_pos h5, if_pos h5]; exact h.1
  ·rename_i h5; dsimp only; rw [if_neg h5, if_neg h5]; obtain ⟨v, h, -⟩ := h; exact h
theorem w_ret {w w' : World} {b : Nat} {g : Rg} {r : Sum (Nat × Int) (List ByteArray)} {e : Ending} (h : WPost w b g r e w') : e = .returned (.tuple #[.int .i64 (wrV g.version r), .int .i64 (wrA r), .int .i64 (wrE r)]) := by
 unfold WPost at h
 rcases r with ⟨i, f⟩ | ys
 ·exact h.1
 ·dsimp only at h
  unfold wrV wrA wrE
  split at h
  ·rename_i h5; dsimp only; rw [if_pos h5, if_pos h5]; exact h.1
  ·rename_i h5; dsimp only; rw [if_neg h5, if_neg h5]; obtain ⟨v, h, -⟩ := h; exact h
def TxtS (w : World) (v : Value) (xs : List ByteArray) : Prop := StrsAt w v xs \/ ∃ a, v = .slice (some a) 0 0 /\ xs = []
def TxtOff (w : World) (v : Value) (xs : List ByteArray) (b : Nat) : Prop :=
 (v = .slice none 0 0 /\ xs = []) \/ ∃ bb off cap, v = .slice (some ⟨bb, off, none⟩) xs.length cap /\ bb ≠ b /\ ∀ i x, xs[i]? = some x -> w.cell? ⟨bb, off + i, none⟩ = some (.string x)
theorem pairGW {w : World} {B : Nat} {V : Int} {p : PS} (h : PairOk w B V p) (hV : V <= 4611686018427387904) {v : Value} {xs : List ByteArray} (ht : TxtOff w v xs p.gb) (hl : xs.length <= maxLen) (hsz : ∀ x ∈ xs, x.size <= 140737488355328) :
  Calls Tryz.prog 24 #[.pointer (some ⟨p.gb, 0, none⟩), v] w (PWPost w p.gb p.g (wrRes (ruleOfs p.xs) p.now xs)) := by
 have hnb := strT_ne h.tv h.pg (by decide)
 have hver : 0 <= p.g.ver /\ p.g.ver <= 4611686018427387904 := ⟨h.ver0, Int.le_trans h.verV hV⟩
 obtain ⟨es, cl, hm1, hm2, hm3, hm4⟩ := h.map
 have hf : ∀ s, faultG p.m s = faultS (ruleOfs p.xs) s := fun s => fault_same h.rmap hm4 h.okx s
 rcases ht with ⟨rfl, rfl⟩ | ⟨bb, off, cap, rfl, hbb, hc⟩
 ·exact ghWrite_nil p.gb p.g p.now (ruleOfs p.xs) w h.pg h.lk h.cl h.tv.strs h.nl hnb hver
 ·unfold wrRes
  split
  ·rename_i h20
   refine (ghWrite_full p.gb p.g _ _ _ w h.pg h.lk h.cl h20 hl).mono ?_
   rintro e w' ⟨rfl, h1, h2⟩
   exact ⟨h2, rfl, h1⟩
  ·exact ghWrite_open p.gb p.g p.m (ruleOfs p.xs) p.now xs bb off cap w h.pg h.lk h.cl h.rmap.ways ⟨es, cl, hm1, hm2, hm3, hm4⟩ hf h.tv.strs h.sorted h.nl hnb hc hbb (by omega) hsz hver
theorem pairRW {w w3 : World} {B : Nat} {V : Int} {p : PS} (h : PairOk w B V p) (hrg : RgAt w3 p.rb p.r) (hru : w3.ownsRow p.lo 163 2 p.r.rulesV (ruleOfs p.xs).length (flR (ruleOfs p.xs))) (hnv : StrT w3 p.r.nowV p.now) (hV : V <= 4611686018427387904) {v : Value} {xs : List ByteArray}
  (ht : TxtS w3 v xs) (hl : xs.length <= maxLen) (hsz : ∀ x ∈ xs, x.size <= 140737488355328) :
  Calls Tryz.prog 35 #[.pointer (some ⟨p.rb, 0, none⟩), v] w3 (WPost w3 p.rb p.r (wrRes (ruleOfs p.xs) p.now xs)) := by
 have hnb := strT_ne hnv hrg (by decide)
 have hver : 0 <= p.r.version /\ p.r.version <= 4611686018427387904 := by rw [← h.ver]; exact ⟨h.ver0, Int.le_trans h.verV hV⟩
 rcases ht with (⟨rfl, rfl⟩ | ⟨bb, off, cap, rfl, hc⟩) | ⟨a, rfl, rfl⟩
 ·exact refWrite_nil p.rb p.r (ruleOfs p.xs) p.now w3 hrg h.rcl hnv h.nl hnb hver
 ·unfold wrRes
  split
  ·rename_i h20
   refine (refWrite_full p.rb p.r _ _ _ w3 hrg h.rcl h20 hl).mono ?_
   rintro e w' ⟨rfl, rfl⟩
   exact ⟨rfl, Below.refl _ _⟩
  ·exact refWrite_open p.rb p.r (ruleOfs p.xs) p.now xs bb off cap w3 hrg h.rcl (owns_rules hru) (by unfold ruleOfs; rw [List.length_map]; exact h.few) hnv h.nl hc (by omega) hsz hnb hver
 ·exact refWrite_zero a p.rb p.r (ruleOfs p.xs) p.now w3 hrg h.rcl hnv h.nl hnb hver
theorem PairOk.turn {X : Nat -> Prop} {w w' : World} {B : Nat} {V V' : Int} {p : PS} (h : PairOk w B V p) (k : SK X w w') (g' : Pg) (r' : Rg) (now' : List ByteArray) (hpg : PgAt w' p.gb g') (hrg : RgAt w' p.rb r') (hmb : g'.mb = p.g.mb) (hrv : r'.rulesV = p.r.rulesV) (tv : StrT w' g'.tv now') (nv : StrT w' r'.nowV now') (hs : Sorted now') (nl : now'.length <= 50) (tup : ∀ s ∈ now', goodT (ruleOfs p.xs) s)
  (lk : g'.lk = 0) (cl : g'.cl = false) (rcl : r'.closed = false) (ver : g'.ver = r'.version) (ver0 : 0 <= g'.ver) (verV : g'.ver <= V') : PairOk w' B V' { p with g := g', r := r', now := now' } :=
 { pair := k.block _ _ h.pair (by show mutT 65 = false; decide) (Or.inl (by show gateT 65 = false; decide))
   pg := hpg
   rg := hrg
   map := by show MapAt w' HeadG g'.mb p.m; rw [hmb]; exact k.mapAt h.map
   rmap := k.rmap h.rmap
   rules := by show w'.ownsRow p.lo _ 2 r'.rulesV _ _; rw [hrv]; exact k.rules h.rules
   okx := h.okx
   few := h.few
   tv := tv
   nv := nv
   sorted := hs
   nl := nl
   tup := tup
   lk := lk
   cl := cl
   rcl := rcl
   ver := ver
   ver0 := ver0
   verV := verV
   gB := h.gB
   rB := h.rB }
def turns (p : PS) (k : Nat) : Prop := k = p.gb \/ k = p.rb
theorem pair_end {Z w w1 w2 w3 w4 : World} {B : Nat} {V : Int} {p : PS} {res : Sum (Nat × Int) (List ByteArray)} {xs : List ByteArray} {e2 e4 : Ending} (h : PairOk w B V p) (hres : wrRes (ruleOfs p.xs) p.now xs = res) (hb1 : Below w.heap.size w w1) (hp2 : PWPost w1 p.gb p.g res e2 w2) (h23 : ∀ k, k < w2.heap.size -> (k < w.heap.size \/ w1.heap.size <= k) -> w3.heap[k]? = w2.heap[k]?) (c3 : Calm (turns p) w w3)
  (hZ : Z.heap.size <= p.gb /\ Z.heap.size <= p.rb) (hb3 : Below Z.heap.size Z w3) (hp4 : WPost w3 p.rb p.r res e4 w4) :
  Calm (turns p) w w4 /\ Below Z.heap.size Z w4 /\ ∃ p', p'.pb = p.pb /\ p'.gb = p.gb /\ p'.rb = p.rb /\ p'.xs = p.xs /\ PairOk w4 B (V + 1) p' := by
 have hgw : p.gb < w.heap.size := row_lt h.pg
 have hrw : p.rb < w.heap.size := row_lt h.rg
 have hgr : p.gb ≠ p.rb := by
  intro e
  have a := h.pg; have b := h.rg
  unfold PgAt at a; unfold RgAt at b
  rw [e, b] at a; injection a with a; injection a with _ a; revert a; decide
 have hpg1 : PgAt w1 p.gb p.g := pg_below h.pg hb1
 have hs12 : w1.heap.size <= w2.heap.size := hp2.1.size
 have hg2 : p.gb < w2.heap.size := by have := hb1.size; omega
 have keep3 : ∀ g', PgAt w2 p.gb g' -> PgAt w3 p.gb g' := fun g' hg => by unfold PgAt; rw [h23 _ hg2 (Or.inl hgw)]; exact hg
 have hrg3 : RgAt w3 p.rb p.r := by
  have a1 : w1.heap[p.rb]? = w.heap[p.rb]? := hb1.block _ hrw
  have a2 : w2.heap[p.rb]? = w1.heap[p.rb]? := hp2.1.block _ (by have := hb1.size; omega) (by intro e; injection e with e; exact hgr e.symm)
  unfold RgAt
  rw [h23 _ (by have := hb1.size; omega) (Or.inl hrw), a2, a1]; exact h.rg
 have hV0 : p.g.ver <= V + 1 := by have := h.verV; omega
 have calm : Below w3.heap.size w3 w4 -> PgAt w2 p.gb p.g -> Calm (turns p) w w4 /\ Below Z.heap.size Z w4 /\ ∃ p', p'.pb = p.pb /\ p'.gb = p.gb /\ p'.rb = p.rb /\ p'.xs = p.xs /\ PairOk w4 B (V + 1) p' := by
  intro hb4 hg
  have c4 := c3.trans (Calm.below hb4)
  exact ⟨c4, hb3.trans (hb4.mono hb3.size), _, rfl, rfl, rfl, rfl, h.turn c4.sk p.g p.r p.now (pg_below (keep3 _ hg) hb4) (rg_below hrg3 hb4) rfl rfl (c4.sk.strT h.tv) (c4.sk.strT h.nv) h.sorted h.nl h.tup h.lk h.cl h.rcl h.ver h.ver0 hV0⟩
 unfold PWPost at hp2
 unfold WPost at hp4
 rcases res with ⟨i, f⟩ | ys
 ·exact calm hp4.2 hp2.2.2
 ·dsimp only at hp2 hp4
  by_cases h5 : 50 < ys.length
  ·rw [if_pos h5] at hp2 hp4
   exact calm hp4.2 hp2.2.2
  ·rw [if_neg h5] at hp2 hp4
   obtain ⟨hk2, v, -, hg, hv⟩ := hp2
   obtain ⟨u, -, hr, hu, hk4⟩ := hp4
   have hv3 : w3.ownsRow w1.heap.size 9 1 v ys.length (strV ys) := owns_to hv fun g hgb => by obtain ⟨a, b, -⟩ := owns_lt hv g hgb; exact h23 g a (Or.inr b)
   have hv4 : w4.ownsRow w1.heap.size 9 1 v ys.length (strV ys) := owns_to hv3 fun g hgb => by
    obtain ⟨a, b, cur, hc⟩ := owns_lt hv3 g hgb
    refine hk4.block g a ?_
    intro e; injection e with e; subst e
    have b := hrg3
    unfold RgAt at b
    rw [hc] at b; injection b with b; injection b with _ b; revert b; decide
   have hg4 : PgAt w4 p.gb { p.g with tv := v, ver := p.g.ver + 1 } := by
    unfold PgAt
    rw [hk4.block p.gb (row_lt (keep3 _ hg)) (by intro e; injection e with e; exact hgr e)]
    exact keep3 _ hg
   have c4 : Calm (turns p) w w4 := c3.trans (Calm.gate hk4 hrg3 (by decide) (Or.inr rfl))
   exact ⟨c4, hb3.grown hk4 hb3.size (fun j hj => by injection hj with hj; rw [← hj]; exact hZ.2), { p with g := { p.g with tv := v, ver := p.g.ver + 1 }, r := { p.r with nowV := u, version := p.r.version + 1 }, now := ys }, rfl, rfl, rfl, rfl, h.turn c4.sk _ _ ys hg4 hr rfl rfl (owns_strT hv4) hu (wr_sorted h.sorted hres) (by omega) (wr_good h.tup hres) h.lk h.cl h.rcl (by show p.g.ver + 1 = p.r.version + 1; rw [h.ver]) (by show 0 <= p.g.ver + 1; have := h.ver0; omega) (by show p.g.ver + 1 <= V + 1; have := h.verV; omega)⟩
def WritePost (Z w : World) (B : Nat) (V : Int) (p : PS) (e : Ending) (w' : World) : Prop :=
 e = .returned (.bool true) /\ Calm (turns p) w w' /\ Below Z.heap.size Z w' /\ ∃ p', p'.pb = p.pb /\ p'.gb = p.gb /\ p'.rb = p.rb /\ p'.xs = p.xs /\ PairOk w' B (V + 1) p'
theorem PairOk.ne {w : World} {B : Nat} {V : Int} {p : PS} (h : PairOk w B V p) : p.gb ≠ p.rb := by
 intro e
 have a := h.pg; have b := h.rg
 unfold PgAt at a; unfold RgAt at b
 rw [e, b] at a; injection a with a; injection a with _ a; revert a; decide
theorem wr_g {w w1 : World} {B : Nat} {V : Int} {p : PS} (h : PairOk w B V p) (hV : V <= 4611686018427387904) (hb1 : Below w.heap.size w w1) {v : Value} {xs : List ByteArray} (ht : TxtOff w1 v xs p.gb) (hl : xs.length <= maxLen) (hsz : ∀ x ∈ xs, x.size <= 140737488355328) {gv ga ge : Int} {res : Sum (Nat × Int) (List ByteArray)} (hres : wrRes (ruleOfs p.xs) p.now xs = res) (he : wrV p.g.ver res = gv /\ wrA res = ga /\ wrE res = ge) :
  Calls Tryz.prog 24 #[.pointer (some ⟨p.gb, 0, none⟩), v] w1 fun e w2 => e = .returned (.tuple #[.int .i64 gv, .int .i64 ga, .int .i64 ge]) /\ PWPost w1 p.gb p.g res e w2 := by
 obtain ⟨rfl, rfl, rfl⟩ := he
 subst hres
 exact (pairGW (h.keep (SK.below (X := fun _ => False) hb1) id id) hV ht hl hsz).mono fun e w2 hp => ⟨pw_ret hp, hp⟩
theorem wr_c {w w3 : World} {B : Nat} {V : Int} {p : PS} (h : PairOk w B V p) (c3 : Calm (turns p) w w3) : w3.cell? ⟨p.pb, 1, none⟩ = some (.pointer (some ⟨p.rb, 0, none⟩)) :=
 row_cell (c3.sk.block _ _ h.pair (by show mutT 65 = false; decide) (Or.inl (by show gateT 65 = false; decide))) (j := 1) rfl
theorem wr_r {Z w w1 w2 w3 : World} {B : Nat} {V : Int} {p : PS} (h : PairOk w B V p) (hV : V <= 4611686018427387904) (hb1 : Below w.heap.size w w1) {v : Value} {xs : List ByteArray} {e2 : Ending} {gv ga ge : Int} {res : Sum (Nat × Int) (List ByteArray)} (hres : wrRes (ruleOfs p.xs) p.now xs = res) (he : wrV p.g.ver res = gv /\ wrA res = ga /\ wrE res = ge)
  (hp2 : PWPost w1 p.gb p.g res e2 w2) (h23 : ∀ k, k < w2.heap.size -> (k < w.heap.size \/ w1.heap.size <= k) -> w3.heap[k]? = w2.heap[k]?) (c3 : Calm (turns p) w w3) (hZ : Z.heap.size <= p.gb /\ Z.heap.size <= p.rb) (hb3 : Below Z.heap.size Z w3) (ht : TxtS w3 v xs) (hl : xs.length <= maxLen) (hsz : ∀ x ∈ xs, x.size <= 140737488355328) :
  Calls Tryz.prog 35 #[.pointer (some ⟨p.rb, 0, none⟩), v] w3 fun e w4 => e = .returned (.tuple #[.int .i64 gv, .int .i64 ga, .int .i64 ge]) /\ WritePost Z w B V p (.returned (.bool true)) w4 := by
 obtain ⟨rfl, rfl, rfl⟩ := he
 have hrw : p.rb < w.heap.size := row_lt h.rg
 have hrg3 : RgAt w3 p.rb p.r := by
  have a1 : w1.heap[p.rb]? = w.heap[p.rb]? := hb1.block _ hrw
  have a2 : w2.heap[p.rb]? = w1.heap[p.rb]? := hp2.1.block _ (by have := hb1.size; omega) (by intro e; injection e with e; exact h.ne e.symm)
  unfold RgAt
  rw [h23 _ (by have := hb1.size; have := hp2.1.size; omega) (Or.inl hrw), a2, a1]; exact h.rg
 have := pairRW h hrg3 (c3.sk.rules h.rules) (c3.sk.strT h.nv) hV ht hl hsz
 rw [hres] at this
 refine this.mono ?_
 intro e w' hp4
 exact ⟨by rw [w_ret hp4, h.ver], rfl, pair_end h hres hb1 hp2 h23 c3 hZ hb3 hp4⟩
theorem lawWrite_nil {Z w : World} {B : Nat} {V : Int} {p : PS} (h : PairOk w B V p) (hV : V <= 4611686018427387904) (hZ : Z.heap.size <= p.gb /\ Z.heap.size <= p.rb) (hbZ : Below Z.heap.size Z w) :
  Calls Tryz.prog 76 #[.pointer (some ⟨p.pb, 0, none⟩), .slice none 0 0] w (WritePost Z w B V p) := by
 have c0 := row_cell h.pair (j := 0) rfl
 obtain ⟨res, hres⟩ : ∃ res, wrRes (ruleOfs p.xs) p.now [] = res := ⟨_, rfl⟩
 obtain ⟨gv, hgv⟩ : ∃ x, wrV p.g.ver res = x := ⟨_, rfl⟩
 obtain ⟨ga, hga⟩ : ∃ x, wrA res = x := ⟨_, rfl⟩
 obtain ⟨ge, hge⟩ : ∃ x, wrE res = x := ⟨_, rfl⟩
 have hbd : Below w.heap.size w w.drew := (Below.refl _ _).drew
 have HGW := wr_g h hV hbd (xs := []) (Or.inl ⟨rfl, rfl⟩) (Nat.zero_le _) (fun x hx => absurd hx List.not_mem_nil) hres ⟨hgv, hga, hge⟩
 have HRW : Hid (∀ w2 e2, PWPost w.drew p.gb p.g res e2 w2 -> w2.cell? ⟨p.pb, 1, none⟩ = some (.pointer (some ⟨p.rb, 0, none⟩)) /\ Calls Tryz.prog 35 #[.pointer (some ⟨p.rb, 0, none⟩), .slice none 0 0] w2 fun e w' => e = .returned (.tuple #[.int .i64 gv, .int .i64 ga, .int .i64 ge]) /\ WritePost Z w B V p (.returned (.bool true)) w') := by
  intro w2 e2 hp2
  have c2 : Calm (turns p) w w2 := (Calm.below hbd).trans (Calm.gate hp2.1 (cs := p.g.cells) h.pg (by decide) (Or.inl rfl))
  exact ⟨wr_c h c2, wr_r h hV hbd hres ⟨hgv, hga, hge⟩ hp2 (fun k _ _ => rfl) c2 hZ (hbZ.drew.grown hp2.1 hbZ.size (fun j hj => by injection hj with hj; rw [← hj]; exact hZ.1)) (Or.inl (Or.inl ⟨rfl, rfl⟩)) (Nat.zero_le _) (fun x hx => absurd hx List.not_mem_nil)⟩
 have HGG : Hid (Calls Tryz.prog 24 #[.pointer (some ⟨p.gb, 0, none⟩), .slice none 0 0] w.drew _) := HGW
 have e1 : (gv == gv) = true := by simp
 have e2 : (ga == ga) = true := by simp
 have e3 : (ge == ge) = true := by simp
 clear hgv hga hge h hV hZ hbZ hbd HGW hres
 go_enter Tryz.func76, Tryz.ntmps76
 go_wp2_with (go_at_call 68; refine (handed_nil w).mono ?_; rintro e w1 ⟨rfl, rfl⟩)
 go_region_with (go_at_call 24; refine HGG.out.mono ?_; rintro e w2 ⟨rfl, hp2⟩; obtain ⟨hc2, hrw⟩ := HRW.out w2 _ hp2; have HRR : Hid (Calls Tryz.prog 35 #[.pointer (some ⟨p.rb, 0, none⟩), .slice none 0 0] w2 _) := hrw; clear hrw)
 all_goals go_wp2_with (first | (go_at_call 69; refine (still_nil _).mono ?_; rintro e w3 ⟨rfl, rfl⟩) | (go_at_call 35; refine HRR.out.mono ?_; rintro e w4 ⟨rfl, hpost⟩; have HPOST : Hid (WritePost Z _ B V p (.returned (.bool true)) w4) := hpost; clear hpost))
 go_ret
 exact HPOST.out
theorem lawWrite_some {Z w : World} {B : Nat} {V : Int} {p : PS} (h : PairOk w B V p) (hV : V <= 4611686018427387904) (hZ : Z.heap.size <= p.gb /\ Z.heap.size <= p.rb) (hbZ : Below Z.heap.size Z w) (b off cap : Nat) (xs : List ByteArray) (hc : ∀ i x, xs[i]? = some x -> w.cell? ⟨b, off + i, none⟩ = some (.string x)) (hb : b < Z.heap.size) (hl : xs.length <= 8796093022208) (hsz : ∀ x ∈ xs, x.size <= 140737488355328) :
  Calls Tryz.prog 76 #[.pointer (some ⟨p.pb, 0, none⟩), .slice (some ⟨b, off, none⟩) xs.length cap] w (WritePost Z w B V p) := by
 have hml : xs.length <= maxLen := by unfold maxLen; omega
 have hgw : p.gb < w.heap.size := row_lt h.pg
 have hbw : b ≠ w.heap.size := by have := hbZ.size; omega
 have hbg : b ≠ p.gb := by have := hZ.1; omega
 obtain ⟨res, hres⟩ : ∃ res, wrRes (ruleOfs p.xs) p.now xs = res := ⟨_, rfl⟩
 obtain ⟨gv, hgv⟩ : ∃ x, wrV p.g.ver res = x := ⟨_, rfl⟩
 obtain ⟨ga, hga⟩ : ∃ x, wrA res = x := ⟨_, rfl⟩
 obtain ⟨ge, hge⟩ : ∃ x, wrE res = x := ⟨_, rfl⟩
 have HHD : Hid (Calls Tryz.prog 68 #[.slice (some ⟨b, off, none⟩) xs.length cap] w _) := handed_any b off cap xs w hc hl
 have HGW : Hid (∀ w1, RowAt w1 w.heap.size (xs ++ List.replicate 8 markS) -> Below w.heap.size w w1 -> w1.cell? ⟨p.pb, 0, none⟩ = some (.pointer (some ⟨p.gb, 0, none⟩)) /\ Calls Tryz.prog 24 #[.pointer (some ⟨p.gb, 0, none⟩), .slice (some ⟨w.heap.size, 0, none⟩) xs.length (xs.length + 8)] w1.drew fun e w2 => e = .returned (.tuple #[.int .i64 gv, .int .i64 ga, .int .i64 ge]) /\
   Calls Tryz.prog 69 #[.slice (some ⟨w.heap.size, 0, none⟩) (xs.length + 8) (xs.length + 8), .slice (some ⟨b, off, none⟩) xs.length cap] w2 fun e w3 => e = .returned (.bool true) /\ w3.cell? ⟨p.pb, 1, none⟩ = some (.pointer (some ⟨p.rb, 0, none⟩)) /\
    Calls Tryz.prog 35 #[.pointer (some ⟨p.rb, 0, none⟩), .slice (some ⟨b, off, none⟩) xs.length cap] w3 fun e w' => e = .returned (.tuple #[.int .i64 gv, .int .i64 ga, .int .i64 ge]) /\ WritePost Z w B V p (.returned (.bool true)) w') := by
  intro w1 hrow hb1
  have hw1 : w.heap.size < w1.heap.size := row_lt hrow
  have hbd : Below w.heap.size w w1.drew := hb1.drew
  refine ⟨row_cell (by rw [hb1.block _ (row_lt h.pair)]; exact h.pair) (j := 0) rfl, ?_⟩
  refine (wr_g h hV hbd (Or.inr ⟨w.heap.size, 0, xs.length + 8, rfl, by omega, ?_⟩) hml hsz hres ⟨hgv, hga, hge⟩).mono ?_
  ·intro i x hx
   rw [Nat.zero_add]
   refine row_cell (row_drew hrow) (strV_get ?_)
   rw [List.getElem?_append_left (List.getElem?_eq_some_iff.1 hx).1]; exact hx
  ·rintro e w2 ⟨rfl, hp2⟩
   refine ⟨rfl, ?_⟩
   have hs2 : w1.heap.size <= w2.heap.size := hp2.1.size
   have hrow2 : RowAt w2 w.heap.size (xs ++ List.replicate 8 markS) := by unfold RowAt; rw [hp2.1.block _ hw1 (by intro e; injection e with e; omega)]; exact hrow
   have hc2 : ∀ i x, xs[i]? = some x -> w2.cell? ⟨b, off + i, none⟩ = some (.string x) := by
    intro i x hx
    have a := hc i x hx
    have hlt := cell_lt a
    rw [(kcell hp2.1).1 b _ (by show b < w1.heap.size; omega) hbg]
    exact (hb1.cell hlt).trans a
   refine (still_any b off cap w.heap.size xs w2 hc2 hbw hl hrow2).mono ?_
   rintro e w3 ⟨rfl, hk3⟩
   have c2 : Calm (turns p) w w2 := (Calm.below hbd).trans (Calm.gate hp2.1 (cs := p.g.cells) (by rw [row_drew (hb1.block _ hgw)]; exact h.pg) (by decide) (Or.inl rfl))
   have c3 := c2.new hk3 (Nat.le_refl _)
   have hb2 : Below Z.heap.size Z w2 := ((hbZ.trans (hb1.mono hbZ.size)).drew).grown hp2.1 (Nat.le_trans hbZ.size (Nat.le_of_lt hw1)) (fun j hj => by injection hj with hj; rw [← hj]; exact hZ.1)
   refine ⟨rfl, wr_c h c3, wr_r h hV hbd hres ⟨hgv, hga, hge⟩ hp2 (fun k hk hd => hk3.block k hk ?_) c3 hZ (hb2.grown hk3 hb2.size (fun j hj => by injection hj with hj; rw [← hj]; exact hbZ.size)) (Or.inl (Or.inr ⟨b, off, cap, rfl, ?_⟩)) hml hsz⟩
   ·intro e; injection e with e
    rcases hd with hd | hd
    ·omega
    ·have : w1.heap.size <= k := hd
     omega
   ·intro i x hx
    have a := hc2 i x hx
    rw [(kcell hk3).1 b _ (cell_lt a) hbw]; exact a
 have e1 : (gv == gv) = true := by simp
 have e2 : (ga == ga) = true := by simp
 have e3 : (ge == ge) = true := by simp
 clear hgv hga hge h hV hZ hbZ hres hc hsz hgw hbw hbg
 go_enter Tryz.func76, Tryz.ntmps76
 go_wp2_with (go_at_call 68; refine HHD.out.mono ?_; rintro e w1 ⟨rfl, hrow1, hb1⟩; obtain ⟨hc1, hgw⟩ := HGW.out w1 hrow1 hb1; have HGG : Hid (Calls Tryz.prog 24 #[.pointer (some ⟨p.gb, 0, none⟩), .slice (some ⟨w.heap.size, 0, none⟩) xs.length (xs.length + 8)] w1.drew _) := hgw; clear hgw)
 go_region_with (go_at_call 24; refine HGG.out.mono ?_; rintro e w2 ⟨rfl, hst⟩; have HST : Hid (Calls Tryz.prog 69 #[.slice (some ⟨w.heap.size, 0, none⟩) (xs.length + 8) (xs.length + 8), .slice (some ⟨b, off, none⟩) xs.length cap] w2 _) := hst; clear hst)
 all_goals go_wp2_with (first | (go_at_call 69; refine HST.out.mono ?_; rintro e w3 ⟨rfl, hc3, hrw⟩; have HRR : Hid (Calls Tryz.prog 35 #[.pointer (some ⟨p.rb, 0, none⟩), .slice (some ⟨b, off, none⟩) xs.length cap] w3 _) := hrw; clear hrw) | (go_at_call 35; refine HRR.out.mono ?_; rintro e w4 ⟨rfl, hpost⟩; have HPOST : Hid (WritePost Z w B V p (.returned (.bool true)) w4) := hpost; clear hpost))
 all_goals (go_ret; exact HPOST.out)
theorem lawWrite_zero {Z w : World} {B : Nat} {V : Int} {p : PS} (h : PairOk w B V p) (hV : V <= 4611686018427387904) (hZ : Z.heap.size <= p.gb /\ Z.heap.size <= p.rb) (hbZ : Below Z.heap.size Z w) (a : Addr) :
  Calls Tryz.prog 76 #[.pointer (some ⟨p.pb, 0, none⟩), .slice (some a) 0 0] w (WritePost Z w B V p) := by
 have hgw : p.gb < w.heap.size := row_lt h.pg
 obtain ⟨res, hres⟩ : ∃ res, wrRes (ruleOfs p.xs) p.now [] = res := ⟨_, rfl⟩
 obtain ⟨gv, hgv⟩ : ∃ x, wrV p.g.ver res = x := ⟨_, rfl⟩
 obtain ⟨ga, hga⟩ : ∃ x, wrA res = x := ⟨_, rfl⟩
 obtain ⟨ge, hge⟩ : ∃ x, wrE res = x := ⟨_, rfl⟩
 have HHD : Hid (Calls Tryz.prog 68 #[.slice (some a) 0 0] w _) := handed_zero a w
 have HGW : Hid (∀ w1, RowAt w1 w.heap.size (List.replicate 8 markS) -> Below w.heap.size w w1 -> w1.cell? ⟨p.pb, 0, none⟩ = some (.pointer (some ⟨p.gb, 0, none⟩)) /\ Calls Tryz.prog 24 #[.pointer (some ⟨p.gb, 0, none⟩), .slice (some ⟨w.heap.size, 0, none⟩) 0 8] w1.drew fun e w2 => e = .returned (.tuple #[.int .i64 gv, .int .i64 ga, .int .i64 ge]) /\
   Calls Tryz.prog 69 #[.slice (some ⟨w.heap.size, 0, none⟩) 8 8, .slice (some a) 0 0] w2 fun e w3 => e = .returned (.bool true) /\ w3.cell? ⟨p.pb, 1, none⟩ = some (.pointer (some ⟨p.rb, 0, none⟩)) /\
    Calls Tryz.prog 35 #[.pointer (some ⟨p.rb, 0, none⟩), .slice (some a) 0 0] w3 fun e w' => e = .returned (.tuple #[.int .i64 gv, .int .i64 ga, .int .i64 ge]) /\ WritePost Z w B V p (.returned (.bool true)) w') := by
  intro w1 hrow hb1
  have hw1 : w.heap.size < w1.heap.size := row_lt hrow
  have hbd : Below w.heap.size w w1.drew := hb1.drew
  refine ⟨row_cell (by rw [hb1.block _ (row_lt h.pair)]; exact h.pair) (j := 0) rfl, ?_⟩
  refine (wr_g h hV hbd (xs := []) (Or.inr ⟨w.heap.size, 0, 8, rfl, by omega, fun i x hx => by simp at hx⟩) (Nat.zero_le _) (fun x hx => absurd hx List.not_mem_nil) hres ⟨hgv, hga, hge⟩).mono ?_
  ·rintro e w2 ⟨rfl, hp2⟩
   refine ⟨rfl, ?_⟩
   have hs2 : w1.heap.size <= w2.heap.size := hp2.1.size
   have hrow2 : RowAt w2 w.heap.size (List.replicate 8 markS) := by unfold RowAt; rw [hp2.1.block _ hw1 (by intro e; injection e with e; omega)]; exact hrow
   refine (still_zero a w.heap.size w2 hrow2).mono ?_
   rintro e w3 ⟨rfl, hk3⟩
   have c2 : Calm (turns p) w w2 := (Calm.below hbd).trans (Calm.gate hp2.1 (cs := p.g.cells) (by rw [row_drew (hb1.block _ hgw)]; exact h.pg) (by decide) (Or.inl rfl))
   have c3 := c2.new hk3 (Nat.le_refl _)
   have hb2 : Below Z.heap.size Z w2 := ((hbZ.trans (hb1.mono hbZ.size)).drew).grown hp2.1 (Nat.le_trans hbZ.size (Nat.le_of_lt hw1)) (fun j hj => by injection hj with hj; rw [← hj]; exact hZ.1)
   refine ⟨rfl, wr_c h c3, wr_r h hV hbd hres ⟨hgv, hga, hge⟩ hp2 (fun k hk hd => hk3.block k hk ?_) c3 hZ (hb2.grown hk3 hb2.size (fun j hj => by injection hj with hj; rw [← hj]; exact hbZ.size)) (Or.inr ⟨a, rfl, rfl⟩) (Nat.zero_le _) (fun x hx => absurd hx List.not_mem_nil)⟩
   ·intro e; injection e with e
    rcases hd with hd | hd
    ·omega
    ·have : w1.heap.size <= k := hd
     omega
 have e1 : (gv == gv) = true := by simp
 have e2 : (ga == ga) = true := by simp
 have e3 : (ge == ge) = true := by simp
 clear hgv hga hge h hV hZ hbZ hres hgw
 go_enter Tryz.func76, Tryz.ntmps76
 go_wp2_with (go_at_call 68; refine HHD.out.mono ?_; rintro e w1 ⟨rfl, hrow1, hb1⟩; obtain ⟨hc1, hgw⟩ := HGW.out w1 hrow1 hb1; have HGG : Hid (Calls Tryz.prog 24 #[.pointer (some ⟨p.gb, 0, none⟩), .slice (some ⟨w.heap.size, 0, none⟩) 0 8] w1.drew _) := hgw; clear hgw)
 go_region_with (go_at_call 24; refine HGG.out.mono ?_; rintro e w2 ⟨rfl, hst⟩; have HST : Hid (Calls Tryz.prog 69 #[.slice (some ⟨w.heap.size, 0, none⟩) 8 8, .slice (some a) 0 0] w2 _) := hst; clear hst)
 all_goals go_wp2_with (first | (go_at_call 69; refine HST.out.mono ?_; rintro e w3 ⟨rfl, hc3, hrw⟩; have HRR : Hid (Calls Tryz.prog 35 #[.pointer (some ⟨p.rb, 0, none⟩), .slice (some a) 0 0] w3 _) := hrw; clear hrw) | (go_at_call 35; refine HRR.out.mono ?_; rintro e w4 ⟨rfl, hpost⟩; have HPOST : Hid (WritePost Z w B V p (.returned (.bool true)) w4) := hpost; clear hpost))
 all_goals (go_ret; exact HPOST.out)
def opV (k g n m : Int) (s : ByteArray) (tv : Value) : Value := .agg #[.int .i64 k, .int .i64 g, .int .i64 n, .int .i64 m, .string s, tv]
def opO (k g n m : Int) (s : ByteArray) (tv : Value) : Obj := .cells #[.int .i64 k, .int .i64 g, .int .i64 n, .int .i64 m, .string s, tv] 69
theorem LSt.more {W w : World} {wb : Nat} {V V' : Int} {L : List PS} {pv l1 l3 : Value} {us ws : List Value} (h : LSt W w wb V L pv l1 l3 us ws) (hV : V <= V') : LSt W w wb V' L pv l1 l3 us ws :=
 { h with pairs := fun p hp => (h.pairs p hp).more hV }
theorem LSt.later {W w w' : World} {wb : Nat} {V : Int} {L : List PS} {pv l1 l3 : Value} {us ws : List Value} (h : LSt W w wb V L pv l1 l3 us ws) (hb : Below w.heap.size w w') : LSt W w' wb V L pv l1 l3 us ws :=
 h.calm (Calm.below (X := nobody) hb) (h.below.trans (hb.mono h.below.size)) L (fun p hp => (h.pairs p hp).keep (SK.below (X := nobody) hb) id id) rfl rfl rfl
def StepPost (W : World) (wb : Nat) (V : Int) (L : List PS) (us : List Value) (e : Ending) (w' : World) : Prop :=
 e = .returned (.bool true) /\ ∃ L' pv' l1' l3' us' ws', LSt W w' wb (V + 1) L' pv' l1' l3' us' ws' /\ L.length <= L'.length /\ L'.length <= L.length + 1 /\ us'.length <= us.length + 1
theorem owns_vals {w : World} {base : Nat} {t : TypeId} {v : Value} {us : List Value} (h : w.ownsRow base t 1 v us.length us) : ValsAt w v us := by
 rcases h.2 with ⟨hv, hn⟩ | ⟨g, cap, cur, hv, hg, hh, -, -, -, ht⟩
 ·exact Or.inl ⟨hv, List.eq_nil_of_length_eq_zero hn⟩
 ·refine Or.inr ⟨g, cap, hv, fun i x hx => ?_⟩
  have hl : i < us.length := (List.getElem?_eq_some_iff.1 hx).1
  have hh' : w.heap[g]? = some (.cells cur.toList.toArray t (0, 0)) := by rw [Array.toArray_toList]; exact hh
  refine row_cell hh' (j := i) ?_
  rw [Nat.mul_one] at ht
  rw [← hx, ← ht, List.getElem?_take, if_pos hl]
theorem nodup_ne {L : List PS} {f : PS -> Nat} (h : (L.map f).Nodup) {i j : Nat} {p q : PS} (hi : L[i]? = some p) (hj : L[j]? = some q) (hne : i ≠ j) : f p ≠ f q := by
 intro e
 refine hne ((List.getElem?_inj (l := L.map f) ?_ h).1 ?_)
 ·rw [List.length_map]; exact (List.getElem?_eq_some_iff.1 hi).1
 ·rw [List.getElem?_map, List.getElem?_map, hi, hj]; simp [e]
theorem gate_ne {w : World} {B : Nat} {V : Int} {p q : PS} (h : PairOk w B V p) (g : PairOk w B V q) : p.gb ≠ q.rb := by
 intro e
 have a := h.pg; have b := g.rg
 unfold PgAt at a; unfold RgAt at b
 rw [e, b] at a; injection a with a; injection a with _ a; revert a; decide
theorem LSt.turned {W w w' : World} {wb : Nat} {V : Int} {L : List PS} {pv l1 l3 : Value} {us ws : List Value} (h : LSt W w wb V L pv l1 l3 us ws) {i : Nat} {p p' : PS} (hi : L[i]? = some p) (c : Calm (turns p) w w') (hb : Below W.heap.size W w') {V' : Int} (hV : V <= V') (h1 : p'.pb = p.pb) (h2 : p'.gb = p.gb) (h3 : p'.rb = p.rb) (hp : PairOk w' W.heap.size V' p') : LSt W w' wb V' (L.set i p') pv l1 l3 us ws := by
 have hil : i < L.length := (List.getElem?_eq_some_iff.1 hi).1
 have hpi := h.pairs p (List.mem_iff_getElem?.2 ⟨i, hi⟩)
 have hmap : ∀ f : PS -> Nat, f p' = f p -> (L.set i p').map f = L.map f := by
  intro f hf
  refine List.ext_getElem? fun j => ?_
  rw [List.getElem?_map, List.getElem?_map, List.getElem?_set]
  split
  ·rename_i e; subst e; rw [hi]; simp [hf]
  ·rfl
 refine h.calm c hb _ ?_ (hmap _ h1) (hmap _ h2) (hmap _ h3)
 intro q hq
 obtain ⟨j, hj⟩ := List.mem_iff_getElem?.1 hq
 rw [List.getElem?_set] at hj
 split at hj
 ·injection hj with hj; subst hj; exact hp
 ·rename_i e
  have hqj := h.pairs q (List.mem_iff_getElem?.2 ⟨j, hj⟩)
  refine (hqj.keep c.sk ?_ ?_).more hV
  ·rintro (a | a)
   ·exact nodup_ne h.gnd hj hi (Ne.symm e) a
   ·exact gate_ne hqj hpi a
  ·rintro (a | a)
   ·exact gate_ne hpi hqj a.symm
   ·exact nodup_ne h.rnd hj hi (Ne.symm e) a
theorem lawWrite_any {W w : World} {wb : Nat} {V : Int} {L : List PS} {pv l1 l3 : Value} {us ws : List Value} (hS : LSt W w wb V L pv l1 l3 us ws) (hV : V <= 4611686018427387904) {i : Nat} {p : PS} (hi : L[i]? = some p) (tv : Value) (xs : List ByteArray) (ht : TxtAt W tv xs) (hl : xs.length <= 8796093022208) (hsz : ∀ x ∈ xs, x.size <= 140737488355328) :
  Calls Tryz.prog 76 #[.pointer (some ⟨p.pb, 0, none⟩), tv] w (StepPost W wb V L us) := by
 have hp := hS.pairs p (List.mem_iff_getElem?.2 ⟨i, hi⟩)
 have key : Calls Tryz.prog 76 #[.pointer (some ⟨p.pb, 0, none⟩), tv] w (WritePost W w W.heap.size V p) := by
  rcases ht with ⟨rfl, rfl⟩ | ⟨a, rfl, rfl⟩ | ⟨b, off, cap, rfl, h1, h2⟩
  ·exact lawWrite_nil hp hV ⟨hp.gB, hp.rB⟩ hS.below
  ·exact lawWrite_zero hp hV ⟨hp.gB, hp.rB⟩ hS.below a
  ·exact lawWrite_some hp hV ⟨hp.gB, hp.rB⟩ hS.below b off cap xs (fun i x hx => (hS.below.cell h1).trans (h2 i x hx)) h1 hl hsz
 refine key.mono ?_
 rintro e w' ⟨rfl, hc, hb, p', e1, e2, e3, -, hp'⟩
 exact ⟨rfl, L.set i p', pv, l1, l3, us, ws, hS.turned hi hc hb (by omega) e1 e2 e3 hp', by rw [List.length_set]; exact Nat.le_refl _, by rw [List.length_set]; exact Nat.le_succ _, Nat.le_succ _⟩
theorem step_pick {W w : World} {wb : Nat} {V : Int} {L : List PS} {pv l1 l3 : Value} {us ws : List Value} (hS : LSt W w wb V L pv l1 l3 us ws) (hn0 : 0 < L.length) (hn : L.length <= 8796093022208) (g : Int) (hg : -9223372036854775808 <= g /\ g <= 9223372036854775807) :
  ∃ (i : Nat) (p : PS) (pg pc : Nat), i < L.length /\ L[i]? = some p /\ pv = .slice (some ⟨pg, 0, none⟩) L.length pc /\ w.cell? ⟨wb, 0, none⟩ = some pv /\ w.cell? ⟨pg, i, none⟩ = some (.pointer (some ⟨p.pb, 0, none⟩)) /\
   ∀ w1, Calls Tryz.prog 75 #[.int .i64 g, .int .i64 L.length] w1 fun e w' => e = .returned (.int .i64 i) /\ w' = w1 := by
 obtain ⟨h1, h2⟩ := pickN_bd g L.length (by omega)
 obtain ⟨i, hi⟩ := Int.eq_ofNat_of_zero_le h1
 rw [hi] at h2
 have hil : i < L.length := by omega
 have hv := hS.op
 have hlen : L.length = (L.map fun p => Value.pointer (some ⟨p.pb, 0, none⟩)).length := by rw [List.length_map]
 rw [hlen] at hv
 rcases owns_vals hv with ⟨-, e⟩ | ⟨pg, pc, hpv, hc⟩
 ·have := congrArg List.length e
  rw [List.length_map] at this
  change L.length = 0 at this
  omega
 ·rw [List.length_map] at hpv
  refine ⟨i, L[i], pg, pc, hil, List.getElem?_eq_getElem hil, hpv, row_cell hS.lw (j := 0) rfl, hc i _ ?_, fun w1 => ?_⟩
  ·rw [List.getElem?_map, List.getElem?_eq_getElem hil]; rfl
  ·rw [← hi]; exact pick_any g L.length w1 hg.1 hg.2 (by omega) (by omega)
theorem law_takes {W w0 w : World} {wb : Nat} {V : Int} {L : List PS} {pv l1 l3 : Value} {us ws : List Value} {i : Nat} {p : PS} (h0 : LSt W w0 wb V L pv l1 l3 us ws) (hi : L[i]? = some p) (c : Calm (turns p) w0 w) (hbW : Below W.heap.size W w) (hpg : PgAt w p.gb p.g) (hrg : RgAt w p.rb p.r) {v : Value} {now : List ByteArray} (hv : w.ownsRow w0.heap.size 9 1 v now.length (strV now)) (hnl : now.length <= 50)
  (h1 : (us.length + 1) * 24 <= 140737488355328) (h3 : (ws.length + 3) * 24 <= 140737488355328) (hm : us.length <= 140737488355328) :
  Calls Tryz.prog 78 #[.pointer (some ⟨wb, 0, none⟩), v] w fun e w' => e = .returned (.tuple #[]) /\ ∃ l1' l3' ws', LSt W w' wb V L pv l1' l3' (us ++ [v]) ws' := by
 have hwb : wb < w0.heap.size := row_lt h0.lw
 have hws : w0.heap.size <= w.heap.size := c.sk.size
 have hlw : LwAt w wb pv l1 l3 := by unfold LwAt; rw [c.own wb _ _ h0.lw (by decide)]; exact h0.lw
 have hop : w.ownsRow (wb + 1) 66 1 pv L.length (L.map fun p => Value.pointer (some ⟨p.pb, 0, none⟩)) := owns_sl_sk h0.op fun k cur hk => c.own k cur _ hk (by decide)
 have ho1 : w.ownsRow (wb + 1) 28 1 l1 us.length us := owns_sl_sk h0.o1 fun k cur hk => c.own k cur _ hk (by decide)
 have ho3 : w.ownsRow (wb + 1) 28 1 l3 ws.length ws := owns_sl_sk h0.o3 fun k cur hk => c.own k cur _ hk (by decide)
 have hrow : ∀ k, rowOf v = some k -> w0.heap.size <= k /\ ∃ cur : Array Value, w.heap[k]? = some (.cells cur 9 (0, 0)) := by
  intro k hk
  rcases hv.2 with ⟨rfl, -⟩ | ⟨g, cap, cur, rfl, a, b, -⟩
  ·cases hk
  ·have hk' : (if now.length = 0 /\ cap = 0 then none else some g) = some k := hk
   split at hk'
   ·cases hk'
   ·injection hk' with hk'; subst hk'; exact ⟨a, cur, b⟩
 have key : Calls Tryz.prog 78 #[.pointer (some ⟨wb, 0, none⟩), v] w fun e w' => e = .returned (.tuple #[]) /\ TPost w wb (wb + 1) pv l1 l3 v us.length ws.length us ws (strokesS us.length) w' := by
  have none : (v = .slice none 0 0 \/ ∃ bb off, v = .slice (some ⟨bb, off, none⟩) 0 0) -> Calls Tryz.prog 78 #[.pointer (some ⟨wb, 0, none⟩), v] w fun e w' => e = .returned (.tuple #[]) /\ TPost w wb (wb + 1) pv l1 l3 v us.length ws.length us ws (strokesS us.length) w' := fun h =>
   takes_none wb (wb + 1) pv l1 l3 v us ws w h ⟨hlw, ho1, ho3, Or.inl h, h0.sep, Nat.lt_succ_self _, by omega⟩ h1 h3 hm
  rcases hv.2 with ⟨rfl, -⟩ | ⟨g, cap, cur, rfl, a, b, d, e, f, -⟩
  ·exact none (Or.inl rfl)
  ·by_cases hz : now.length = 0 /\ cap = 0
   ·refine none (Or.inr ⟨g, 0, ?_⟩)
    rw [hz.1, hz.2]
   ·exact takes_row wb (wb + 1) pv l1 l3 g now.length cap cur.toList us ws w hlw ho1 ho3 h0.sep (Nat.lt_succ_self _) (by omega) (by unfold StrRow; rw [Array.toArray_toList]; exact b) (by rw [Array.length_toList]; omega) d (by omega) hz h1 h3 hm
 refine key.mono ?_
 rintro e w' ⟨rfl, l1', l3', v1, v2, v3, hs, f1, f2, f3, hsz, eo, et, eu, hf⟩
 refine ⟨rfl, l1', l3', ws ++ [v1] ++ [v2] ++ [v3], ?_⟩
 have keep : ∀ (k : Nat) (o : Obj), w.heap[k]? = some o -> notMut o -> (k < w0.heap.size \/ ∀ cur : Array Value, o ≠ .cells cur 9 (0, 0)) -> w'.heap[k]? = some o := by
  intro k o hk hn hd
  rw [hf k (row_lt hk) ?_ ?_ ?_ ?_]
  ·exact hk
  ·intro e; subst e; rw [hlw] at hk; injection hk with hk; subst hk; exact absurd hn (by show ¬ mutT 61 = false; decide)
  ·intro e
   obtain ⟨a, cur, b⟩ := hrow k e
   rcases hd with hd | hd
   ·omega
   ·rw [hk] at b; injection b with b; exact hd cur b
  ·intro e
   obtain ⟨-, -, cur, b⟩ := owns_lt ho1 k e
   rw [hk] at b; injection b with b; subst b; exact absurd hn (by show ¬ mutT 28 = false; decide)
  ·intro e
   obtain ⟨-, -, cur, b⟩ := owns_lt ho3 k e
   rw [hk] at b; injection b with b; subst b; exact absurd hn (by show ¬ mutT 28 = false; decide)
 have sk : SK (turns p) w0 w' := ⟨Nat.le_trans hws hsz, fun k o hk a b => keep k o (c.sk.block k o hk a b) a (Or.inl (row_lt hk))⟩
 have hpp := h0.pairs p (List.mem_iff_getElem?.2 ⟨i, hi⟩)
 have hn1 : us.length + 1 = (us ++ [v]).length := by simp
 have hn3 : ws.length + 1 + 1 + 1 = (ws ++ [v1] ++ [v2] ++ [v3]).length := by simp
 refine ⟨hs.lw, ?_, ?_, ?_, hs.sep, ?_, h0.gnd, h0.rnd, ?_, ?_, ?_, ?_, h0.wbB⟩
 ·refine owns_to hop fun k hk => ?_
  obtain ⟨a, a2, cur, b⟩ := owns_lt hop k hk
  refine hf k a (by omega) ?_ ?_ ?_
  ·intro e
   obtain ⟨-, cur2, d⟩ := hrow k e
   rw [b] at d; injection d with d; injection d with _ d; revert d; decide
  ·intro e
   obtain ⟨-, -, cur2, d⟩ := owns_lt ho1 k e
   rw [b] at d; injection d with d; injection d with _ d; revert d; decide
  ·intro e
   obtain ⟨-, -, cur2, d⟩ := owns_lt ho3 k e
   rw [b] at d; injection d with d; injection d with _ d; revert d; decide
 ·rw [← hn1]; exact hs.o1
 ·rw [← hn3]; exact hs.o3
 ·intro q hq
  obtain ⟨j, hj⟩ := List.mem_iff_getElem?.1 hq
  by_cases e : j = i
  ·subst e
   rw [hi] at hj; injection hj with hj; subst hj
   exact hpp.turn sk p.g p.r p.now (keep _ _ hpg (by show mutT 99 = false; decide) (Or.inr (by intro cur e; injection e with _ e; revert e; decide))) (keep _ _ hrg (by show mutT 124 = false; decide) (Or.inr (by intro cur e; injection e with _ e; revert e; decide))) rfl rfl (sk.strT hpp.tv) (sk.strT hpp.nv) hpp.sorted hpp.nl hpp.tup hpp.lk hpp.cl hpp.rcl hpp.ver hpp.ver0 hpp.verV
  ·have hqj := h0.pairs q hq
   refine hqj.keep sk ?_ ?_
   ·rintro (a | a)
    ·exact nodup_ne h0.gnd hj hi e a
    ·exact gate_ne hqj hpp a
   ·rintro (a | a)
    ·exact gate_ne hpp hqj a.symm
    ·exact nodup_ne h0.rnd hj hi e a
 ·rw [← hn1, ← hn3, h0.three]; omega
 ·intro k u hu
  rcases Nat.lt_or_ge k us.length with hk | hk
  ·rw [List.getElem?_append_left hk] at hu
   exact sk.lfull (h0.full1 k u hu)
  ·have hk2 : k < (us ++ [v]).length := (List.getElem?_eq_some_iff.1 hu).1
   have e : k = us.length := by rw [← hn1] at hk2; omega
   subst e
   simp at hu
   subst hu
   exact hs.lf
 ·intro k j u hk hj hu
  rw [← hn1] at hk
  have h3' := h0.three
  rcases Nat.lt_or_ge k us.length with hk' | hk'
  ·rw [List.append_assoc, List.append_assoc, List.getElem?_append_left (by omega)] at hu
   exact sk.fullB (h0.full3 k j u hk' hj hu)
  ·have e : k = us.length := by omega
   subst e
   rw [← h3', List.append_assoc, List.append_assoc, List.getElem?_append_right (by omega)] at hu
   rw [Nat.add_sub_cancel_left] at hu
   match j, hj, hu with
   | 0, _, hu => simp at hu; subst hu; exact f1
   | 1, _, hu => simp at hu; subst hu; exact f2
   | 2, _, hu => simp at hu; subst hu; exact f3
 ·refine ⟨eo.trans hbW.os, et.trans hbW.tape, eu.trans hbW.output, Nat.le_trans hbW.size hsz, fun k hk => ?_⟩
  have hb0 := h0.below.size
  have hwB := h0.wbB
  rw [hf k (by omega) (by omega) ?_ ?_ ?_]
  ·exact hbW.block k hk
  ·intro e; have := (hrow k e).1; omega
  ·intro e; have := (owns_lt ho1 k e).2.1; omega
  ·intro e; have := (owns_lt ho3 k e).2.1; omega
theorem step_chain {W w : World} {wb : Nat} {V : Int} {L : List PS} {pv l1 l3 : Value} {us ws : List Value} (hS : LSt W w wb V L pv l1 l3 us ws) {i : Nat} {p : PS} (hi : L[i]? = some p) (h1 : (us.length + 1) * 24 <= 140737488355328) (h3 : (3 * us.length + 3) * 24 <= 140737488355328) (hm : us.length <= 140737488355328) :
  Calls Tryz.prog 23 #[.pointer (some ⟨p.gb, 0, none⟩)] w fun e w2 => ∃ vx vn vc, e = .returned (.slice vx vn vc) /\ w2.cell? ⟨p.pb, 1, none⟩ = some (.pointer (some ⟨p.rb, 0, none⟩)) /\ w2.cell? ⟨p.rb, 1, none⟩ = some p.r.nowV /\
   ∀ w2', Below w2.heap.size w2 w2' -> Calls Tryz.prog 77 #[.slice vx vn vc, p.r.nowV] w2' fun e w3 => e = .returned (.bool true) /\
    ∀ w3', Below w3.heap.size w3 w3' -> Calls Tryz.prog 78 #[.pointer (some ⟨wb, 0, none⟩), .slice vx vn vc] w3' fun e w4 => e = .returned (.tuple #[]) /\ StepPost W wb V L us (.returned (.bool true)) w4 := by
 have hp := hS.pairs p (List.mem_iff_getElem?.2 ⟨i, hi⟩)
 have hgw : p.gb < w.heap.size := row_lt hp.pg
 refine (tuples_any p.gb p.g p.now w hp.pg hp.lk hp.tv.strs hp.nl (strT_ne hp.tv hp.pg (by decide))).mono ?_
 rintro e w2 ⟨v, rfl, hv, hpg2, hk2⟩
 obtain ⟨vx, vc, rfl⟩ := owns_form hv
 have c2 : Calm (turns p) w w2 := Calm.gate hk2 (cs := p.g.cells) hp.pg (by decide) (Or.inl rfl)
 have hrg2 : RgAt w2 p.rb p.r := by unfold RgAt; rw [hk2.block _ (row_lt hp.rg) (by intro e; injection e with e; exact hp.ne e.symm)]; exact hp.rg
 have hb2 : Below W.heap.size W w2 := hS.below.grown hk2 hS.below.size (fun j hj => by injection hj with hj; rw [← hj]; exact hp.gB)
 refine ⟨vx, p.now.length, vc, rfl, wr_c hp c2, row_cell hrg2 (j := 1) rfl, ?_⟩
 intro w2' hb
 have hml : p.now.length <= maxLen := Nat.le_trans hp.nl (by unfold maxLen; omega)
 refine (same_any _ _ p.now p.now w2' (owns_strs (owns_below hv hb)) ((c2.trans (Calm.below hb)).sk.strT hp.nv).strs hml hml).mono ?_
 rintro e w3 ⟨rfl, hd⟩
 refine ⟨by simp [sameL], ?_⟩
 intro w3' hb3
 have hb23 : Below w2.heap.size w2 w3' := (hb.trans ((below_draw hd).mono hb.size)).trans (hb3.mono (Nat.le_trans hb.size (below_draw hd).size))
 have c3 := c2.trans (Calm.below hb23)
 refine (law_takes hS hi c3 (hb2.trans (hb23.mono hb2.size)) (pg_below hpg2 hb23) (rg_below hrg2 hb23) (owns_below hv hb23) hp.nl h1 (by rw [hS.three]; exact h3) hm).mono ?_
 rintro e w4 ⟨rfl, l1', l3', ws', h4⟩
 exact ⟨rfl, rfl, L, pv, l1', l3', _, ws', h4.more (by omega), Nat.le_refl _, Nat.le_succ _, by simp⟩
def batch0 : List ByteArray := [{ data := #[43, 103, 114, 111, 117, 112, 58, 97, 35, 109, 101, 109, 98, 101, 114, 64, 117, 115, 101, 114, 58, 120] }, { data := #[43, 100, 111, 99, 58, 49, 35, 114, 101, 97, 100, 101, 114, 64, 103, 114, 111, 117, 112, 58, 97, 35, 109, 101, 109, 98, 101, 114] }]
theorem open_two : openRes rulesL 2 3 = none := by decide +kernel
theorem open_one : openRes rulesL 1 1 = none := by decide +kernel
theorem first_batch : (match wrRes (ruleOfs rulesL) [] batch0 with | .inr ys => decide (ys.length <= 50) | .inl _ => false) = true := by decide +kernel
structure OpR where
 k : Int
 g : Int
 n : Int
 m : Int
 s : ByteArray
 tv : Value
 xs : List ByteArray
structure OpOk (W : World) (o : OpR) : Prop where
 hg : -9223372036854775808 <= o.g /\ o.g <= 9223372036854775807
 ht : TxtAt W o.tv o.xs
 hl : o.xs.length <= 8796093022208
 hsz : ∀ x ∈ o.xs, x.size <= 140737488355328
theorem looks_law {W w : World} {wb : Nat} {V : Int} {L : List PS} {pv l1 l3 : Value} {us ws : List Value} (hS : LSt W w wb V L pv l1 l3 us ws) (hm : us.length <= 140737488355328) :
  Calls Tryz.prog 37 #[.pointer (some ⟨wb, 0, none⟩)] w fun e w' => e = .returned (.bool true) /\ w' = w :=
 looks_any wb pv l1 l3 us ws w hS.lw (owns_vals hS.o1) (owns_vals hS.o3) hS.three hm (fun k u hu => (hS.full1 k u hu).full) (fun k j u h1 h2 h3 => (hS.full3 k j u h1 h2 h3).at)
theorem LSt.start (W : World) : LSt W (W.alloc (.cells #[.slice none 0 0, .slice none 0 0, .slice none 0 0] 61)) W.heap.size 0 [] (.slice none 0 0) (.slice none 0 0) (.slice none 0 0) [] [] where
 lw := alloc_new W [.slice none 0 0, .slice none 0 0, .slice none 0 0] _
 op := ⟨rfl, Or.inl ⟨rfl, rfl⟩⟩
 o1 := ⟨rfl, Or.inl ⟨rfl, rfl⟩⟩
 o3 := ⟨rfl, Or.inl ⟨rfl, rfl⟩⟩
 sep := fun k h => by cases h
 pairs := fun p hp => absurd hp List.not_mem_nil
 gnd := List.nodup_nil
 rnd := List.nodup_nil
 three := rfl
 full1 := fun k u hu => by simp at hu
 full3 := fun k j u hk => absurd hk (Nat.not_lt_zero k)
 below := (Below.refl _ _).alloc (Nat.le_refl _) _
 wbB := Nat.le_refl _
theorem play_open {W w : World} {wb : Nat} {V : Int} {L : List PS} {pv l1 l3 : Value} {us ws : List Value} (hS : LSt W w wb V L pv l1 l3 us ws) (hV : 0 <= V) (hn : L.length <= 8796093022208) (wk qu : Int) (hr : openRes rulesL wk qu = none) :
  Calls Tryz.prog 34 #[] w fun e w1 => e = .returned (.slice (some ⟨w.heap.size, 0, none⟩) 4 4) /\ Calls Tryz.prog 33 #[.pointer (some ⟨wb, 0, none⟩), .slice (some ⟨w.heap.size, 0, none⟩) 4 4, .int .i64 wk, .int .i64 qu] w1 fun e w2 => e = .returned (.bool true) /\ ∃ pv' p, LSt W w2 wb V (L ++ [p]) pv' l1 l3 us ws /\ p.xs = rulesL /\ p.now = [] /\ p.g.ver = 0 := by
 refine (rules_any w).mono ?_
 rintro e w1 ⟨rfl, hrow, hb⟩
 refine ⟨rfl, ?_⟩
 refine (lawOpen_any (hS.later hb) hV hn _ rulesL wk qu (Or.inr (Or.inr ⟨w.heap.size, 0, 4, rfl, row_lt hrow, fun i x hx => by rw [Nat.zero_add]; exact row_cell hrow (strV_get hx)⟩)) (by decide) (by decide)).mono ?_
 rintro e w2 ⟨pv', L', rfl, h1, ⟨h2, -⟩ | ⟨-, p, rfl, h3⟩⟩
 ·exact absurd hr h2
 ·exact ⟨rfl, pv', p, h1, h3⟩
theorem play_write {W w : World} {wb : Nat} {p1 p2 : PS} {pv l1 l3 : Value} {us ws : List Value} (hS : LSt W w wb 0 [p1, p2] pv l1 l3 us ws) (hx : p1.xs = rulesL) (hnow : p1.now = []) (hver : p1.g.ver = 0) :
  ∃ pg pc, pv = .slice (some ⟨pg, 0, none⟩) 2 pc /\ w.cell? ⟨wb, 0, none⟩ = some pv /\ w.cell? ⟨pg, 0, none⟩ = some (.pointer (some ⟨p1.pb, 0, none⟩)) /\ w.cell? ⟨p1.pb, 0, none⟩ = some (.pointer (some ⟨p1.gb, 0, none⟩)) /\
   ∀ w5, Below w.heap.size w w5 -> RowAt w5 w.heap.size batch0 -> Calls Tryz.prog 24 #[.pointer (some ⟨p1.gb, 0, none⟩), .slice (some ⟨w.heap.size, 0, none⟩) 2 2] w5 fun e w6 => e = .returned (.tuple #[.int .i64 1, .int .i64 0, .int .i64 0]) /\
    w6.cell? ⟨wb, 0, none⟩ = some pv /\ w6.cell? ⟨pg, 0, none⟩ = some (.pointer (some ⟨p1.pb, 0, none⟩)) /\ w6.cell? ⟨p1.pb, 1, none⟩ = some (.pointer (some ⟨p1.rb, 0, none⟩)) /\
    ∀ w7, Below w6.heap.size w6 w7 -> Calls Tryz.prog 35 #[.pointer (some ⟨p1.rb, 0, none⟩), .slice (some ⟨w.heap.size, 0, none⟩) 2 2] w7 fun e w8 => e = .returned (.tuple #[.int .i64 1, .int .i64 0, .int .i64 0]) /\ ∃ L', LSt W w8 wb 1 L' pv l1 l3 us ws /\ L'.length = 2 := by
 have hi : [p1, p2][0]? = some p1 := rfl
 have hp := hS.pairs p1 (by simp)
 obtain ⟨ys, hys, hyl⟩ : ∃ ys, wrRes (ruleOfs p1.xs) p1.now batch0 = .inr ys /\ ys.length <= 50 := by
  rw [hx, hnow]
  have := first_batch
  split at this
  ·rename_i ys h; exact ⟨ys, h, of_decide_eq_true this⟩
  ·cases this
 have he : wrV p1.g.ver (.inr ys) = 1 /\ wrA (.inr ys) = 0 /\ wrE (.inr ys) = 0 := by
  refine ⟨?_, rfl, ?_⟩
  ·show (if 50 < ys.length then 0 else p1.g.ver + 1) = (1 : Int)
   rw [if_neg (by omega), hver]; rfl
  ·show (if 50 < ys.length then 6 else 0) = (0 : Int)
   rw [if_neg (by omega)]
 have hv := hS.op
 rcases owns_vals (us := [Value.pointer (some ⟨p1.pb, 0, none⟩), .pointer (some ⟨p2.pb, 0, none⟩)]) hv with ⟨-, e⟩ | ⟨pg, pc, hpv, hc⟩
 ·cases e
 ·have hpgt := (owns_lt hv pg (by rw [hpv]; rfl)).2
  refine ⟨pg, pc, hpv, row_cell hS.lw (j := 0) rfl, hc 0 _ rfl, row_cell hp.pair (j := 0) rfl, ?_⟩
  intro w5 hb5 hrow5
  have hgw : p1.gb < w.heap.size := row_lt hp.pg
  refine (wr_g hp (by decide) hb5 (xs := batch0) (Or.inr ⟨w.heap.size, 0, 2, rfl, by omega, fun i x hx => by rw [Nat.zero_add]; exact row_cell hrow5 (strV_get hx)⟩) (by decide) (by decide) hys he).mono ?_
  rintro e w6 ⟨rfl, hp6⟩
  have hs5 : w.heap.size < w5.heap.size := row_lt hrow5
  have c6 : Calm (turns p1) w w6 := (Calm.below hb5).trans (Calm.gate hp6.1 (cs := p1.g.cells) (by rw [hb5.block _ hgw]; exact hp.pg) (by decide) (Or.inl rfl))
  have hb6 : Below W.heap.size W w6 := (hS.below.trans (hb5.mono hS.below.size)).grown hp6.1 (Nat.le_trans hS.below.size hb5.size) (fun j hj => by injection hj with hj; rw [← hj]; exact hp.gB)
  have hlw6 : LwAt w6 wb pv l1 l3 := by unfold LwAt; rw [c6.own wb _ _ hS.lw (by decide)]; exact hS.lw
  have hop6 : w6.ownsRow (wb + 1) 66 1 pv 2 [Value.pointer (some ⟨p1.pb, 0, none⟩), .pointer (some ⟨p2.pb, 0, none⟩)] := owns_sl_sk hv fun k cur hk => c6.own k cur _ hk (by decide)
  have hc6 : w6.cell? ⟨pg, 0, none⟩ = some (.pointer (some ⟨p1.pb, 0, none⟩)) := by
   rcases owns_vals (us := [Value.pointer (some ⟨p1.pb, 0, none⟩), .pointer (some ⟨p2.pb, 0, none⟩)]) hop6 with ⟨-, e⟩ | ⟨pg', pc', hpv', hc'⟩
   ·cases e
   ·rw [hpv] at hpv'; injection hpv' with a; injection a with a; injection a with a; subst a; exact hc' 0 _ rfl
  refine ⟨rfl, row_cell hlw6 (j := 0) rfl, hc6, wr_c hp c6, ?_⟩
  intro w7 hb7
  have hrow7 : RowAt w7 w.heap.size batch0 := by
   have h6 : RowAt w6 w.heap.size batch0 := by unfold RowAt; rw [hp6.1.block _ hs5 (by intro e; injection e with e; omega)]; exact hrow5
   unfold RowAt; rw [hb7.block _ (row_lt h6)]; exact h6
  have c7 := c6.trans (Calm.below hb7)
  refine (wr_r hp (by decide) hb5 hys he hp6 (fun k hk _ => hb7.block k hk) c7 ⟨hp.gB, hp.rB⟩ (hb6.trans (hb7.mono hb6.size)) (v := .slice (some ⟨w.heap.size, 0, none⟩) 2 2) (Or.inl (Or.inr ⟨w.heap.size, 0, 2, rfl, fun i x hx => by rw [Nat.zero_add]; exact row_cell hrow7 (strV_get hx)⟩)) (by decide) (by decide)).mono ?_
  rintro e w8 ⟨rfl, -, hc8, hb8, p', e1, e2, e3, -, hp'⟩
  exact ⟨rfl, [p1, p2].set 0 p', hS.turned hi hc8 hb8 (by decide) e1 e2 e3 hp', rfl⟩
def OpAt (W : World) (b o : Nat) (r : OpR) : Prop :=
 W.cell? ⟨b, o, none⟩ = some (.int .i64 r.k) /\ W.cell? ⟨b, o + 1, none⟩ = some (.int .i64 r.g) /\ W.cell? ⟨b, o + 2, none⟩ = some (.int .i64 r.n) /\ W.cell? ⟨b, o + 3, none⟩ = some (.int .i64 r.m) /\ W.cell? ⟨b, o + 4, none⟩ = some (.string r.s) /\ W.cell? ⟨b, o + 5, none⟩ = some r.tv
theorem cell_a {w : World} {b j : Nat} {u : Value} (h : w.cell? ⟨b, j, none⟩ = some u) (o : Obj) : (w.alloc o).cell? ⟨b, j, none⟩ = some u :=
 (World.cell?_of_block (a := ⟨b, j, none⟩) (Below.heap_alloc w o b (cell_lt h))).trans h
def PInv (W : World) (n : Nat) (i : Value) (wr : World) : Prop :=
 ∃ (k : Nat) (L : List PS) (pv l1 l3 : Value) (us ws : List Value), k <= n /\ i = .int .i64 k /\ LSt W wr W.heap.size (1 + k) L pv l1 l3 us ws /\ 2 <= L.length /\ L.length <= 2 + k /\ us.length <= k
theorem stepZ_idle {W w : World} {wb : Nat} {V : Int} {L : List PS} {pv l1 l3 : Value} {us ws : List Value} (hS : LSt W w wb V L pv l1 l3 us ws) (k g n m : Int) (s : ByteArray) (tv : Value) (z : Int) (hk : k < 1 \/ z < k)  :
  Calls Tryz.prog 36 #[.pointer (some ⟨wb, 0, none⟩), opV k g n m s tv, .int .i64 z] w (StepPost W wb V L us) := by
 have HP : Hid (StepPost W wb V L us (.returned (.bool true)) (w.alloc (opO k g n m s tv))) := ⟨rfl, L, pv, l1, l3, us, ws, (hS.later ((Below.refl _ _).alloc (Nat.le_refl _) _)).more (by omega), Nat.le_refl _, Nat.le_succ _, Nat.le_succ _⟩
 clear hS
 unfold opV
 by_cases hk1 : k < 1
 ·clear hk
  go_enter Tryz.func36, Tryz.ntmps36
  go_wp2
  go_ret
  exact HP.out
 ·have hk : z < k := by omega
  go_enter Tryz.func36, Tryz.ntmps36
  go_wp2
  go_ret
  exact HP.out
theorem stepZ_open {W w : World} {wb : Nat} {V : Int} {L : List PS} {pv l1 l3 : Value} {us ws : List Value} (hS : LSt W w wb V L pv l1 l3 us ws) (hV : 0 <= V) (hn : L.length <= 8796093022208) (g n m : Int) (s : ByteArray) (tv : Value) (xs : List ByteArray) (ht : TxtAt W tv xs) (hl : xs.length <= 8796093022208) (hsz : ∀ x ∈ xs, x.size <= 140737488355328) (z : Int) (hz : ¬ z < 1) :
  Calls Tryz.prog 36 #[.pointer (some ⟨wb, 0, none⟩), opV 1 g n m s tv, .int .i64 z] w (StepPost W wb V L us) := by
 have hb : Below w.heap.size w (w.alloc (opO 1 g n m s tv)) := (Below.refl _ _).alloc (Nat.le_refl _) _
 have HO : Hid (Calls Tryz.prog 33 #[.pointer (some ⟨wb, 0, none⟩), tv, .int .i64 n, .int .i64 m] (w.alloc (opO 1 g n m s tv)) (StepPost W wb V L us)) := by
  have hS' := hS.later hb
  refine (lawOpen_any hS' hV hn tv xs n m ?_ hl (fun x hx => Nat.le_trans (hsz x hx) (by unfold maxLen; omega))).mono ?_
  ·rcases ht with h | h | ⟨b, off, cap, rfl, h1, h2⟩
   ·exact Or.inl h
   ·exact Or.inr (Or.inl h)
   ·exact Or.inr <| Or.inr ⟨b, off, cap, rfl, Nat.lt_of_lt_of_le h1 hS'.below.size, fun i x hx => (hS'.below.cell h1).trans (h2 i x hx)⟩
  ·rintro e w' ⟨pv', L', rfl, h1, h2⟩
   refine ⟨rfl, L', pv', l1, l3, us, ws, h1.more (by omega), ?_, ?_, Nat.le_succ _⟩ <;> rcases h2 with ⟨-, rfl⟩ | ⟨-, p, rfl, -⟩ <;> simp
 have htv : ∃ tx tn tc, tv = .slice tx tn tc := by
  rcases ht with ⟨rfl, -⟩ | ⟨a, rfl, -⟩ | ⟨b, off, cap, rfl, -⟩
  ·exact ⟨_, _, _, rfl⟩
  ·exact ⟨_, _, _, rfl⟩
  ·exact ⟨_, _, _, rfl⟩
 obtain ⟨tx, tn, tc, rfl⟩ := htv
 clear hS ht hl hsz hb hV hn
 unfold opV
 go_enter Tryz.func36, Tryz.ntmps36
 go_wp2_with (go_at_call 33; refine HO.out.mono ?_; rintro e w' ⟨rfl, hp⟩; have HP : Hid (StepPost W wb V L us (.returned (.bool true)) w') := ⟨rfl, hp⟩; clear hp)
 go_ret
 exact HP.out
theorem stepZ_write {W w : World} {wb : Nat} {V : Int} {L : List PS} {pv l1 l3 : Value} {us ws : List Value} (hS : LSt W w wb V L pv l1 l3 us ws) (hV : V <= 4611686018427387904) (hn0 : 0 < L.length) (hn : L.length <= 8796093022208) (g n m : Int) (hg : -9223372036854775808 <= g /\ g <= 9223372036854775807) (s : ByteArray) (tv : Value) (xs : List ByteArray) (ht : TxtAt W tv xs) (hl : xs.length <= 8796093022208) (hsz : ∀ x ∈ xs, x.size <= 140737488355328) (z : Int) (hz : ¬ z < 2) :
  Calls Tryz.prog 36 #[.pointer (some ⟨wb, 0, none⟩), opV 2 g n m s tv, .int .i64 z] w (StepPost W wb V L us) := by
 have hb : Below w.heap.size w (w.alloc (opO 2 g n m s tv)).drew := ((Below.refl _ _).alloc (Nat.le_refl _) _).drew
 obtain ⟨i, p, pg, pc, hil, hi, rfl, hc0, hci, hpk⟩ := step_pick (hS.later hb) hn0 hn g hg
 have HW : Hid (Calls Tryz.prog 76 #[.pointer (some ⟨p.pb, 0, none⟩), tv] (w.alloc (opO 2 g n m s tv)).drew (StepPost W wb V L us)) := lawWrite_any (hS.later hb) hV hi tv xs ht hl hsz
 have HPK : Hid (∀ w1, Calls Tryz.prog 75 #[.int .i64 g, .int .i64 L.length] w1 fun e w' => e = .returned (.int .i64 i) /\ w' = w1) := hpk
 have htv : ∃ tx tn tc, tv = .slice tx tn tc := by
  rcases ht with ⟨rfl, -⟩ | ⟨a, rfl, -⟩ | ⟨b, off, cap, rfl, -⟩
  ·exact ⟨_, _, _, rfl⟩
  ·exact ⟨_, _, _, rfl⟩
  ·exact ⟨_, _, _, rfl⟩
 obtain ⟨tx, tn, tc, rfl⟩ := htv
 clear hS ht hl hsz hb hV hi hpk
 have hc0' : (w.alloc (opO 2 g n m s (.slice tx tn tc))).cell? ⟨wb, 0, none⟩ = _ := hc0
 have hci' : (w.alloc (opO 2 g n m s (.slice tx tn tc))).cell? ⟨pg, i, none⟩ = _ := hci
 unfold opO at hc0 hci hc0' hci'
 unfold opV
 go_enter Tryz.func36, Tryz.ntmps36
 go_wp2
 go_region_with (go_at_call 75; refine (HPK.out _).mono ?_; rintro e w' ⟨rfl, rfl⟩)
 all_goals go_wp2_with (go_at_call 76; refine HW.out.mono ?_; rintro e w' ⟨rfl, hp⟩; have HP : Hid (StepPost W wb V L us (.returned (.bool true)) w') := ⟨rfl, hp⟩; clear hp)
 all_goals (go_ret; exact HP.out)
theorem stepZ_tuples {W w : World} {wb : Nat} {V : Int} {L : List PS} {pv l1 l3 : Value} {us ws : List Value} (hS : LSt W w wb V L pv l1 l3 us ws) (hn0 : 0 < L.length) (hn : L.length <= 8796093022208) (g n m : Int) (hg : -9223372036854775808 <= g /\ g <= 9223372036854775807) (s : ByteArray) (tv : Value) (h1 : (us.length + 1) * 24 <= 140737488355328) (h3 : (3 * us.length + 3) * 24 <= 140737488355328) (hm : us.length <= 140737488355328) (z : Int) (hz : ¬ z < 3) :
  Calls Tryz.prog 36 #[.pointer (some ⟨wb, 0, none⟩), opV 3 g n m s tv, .int .i64 z] w (StepPost W wb V L us) := by
 have hb : Below w.heap.size w (w.alloc (opO 3 g n m s tv)).drew := ((Below.refl _ _).alloc (Nat.le_refl _) _).drew
 obtain ⟨i, p, pg, pc, hil, hi, rfl, hc0, hci, hpk⟩ := step_pick (hS.later hb) hn0 hn g hg
 have HT : Hid (Calls Tryz.prog 23 #[.pointer (some ⟨p.gb, 0, none⟩)] (w.alloc (opO 3 g n m s tv)).drew _) := step_chain (hS.later hb) hi h1 h3 hm
 have hp0 := row_cell ((hS.later hb).pairs p (List.mem_iff_getElem?.2 ⟨i, hi⟩)).pair (j := 0) rfl
 have HPK : Hid (∀ w1, Calls Tryz.prog 75 #[.int .i64 g, .int .i64 L.length] w1 fun e w' => e = .returned (.int .i64 i) /\ w' = w1) := hpk
 clear hS hb hi hpk h1 h3 hm
 have hc0' : (w.alloc (opO 3 g n m s tv)).cell? ⟨wb, 0, none⟩ = _ := hc0
 have hci' : (w.alloc (opO 3 g n m s tv)).cell? ⟨pg, i, none⟩ = _ := hci
 have hp0' : (w.alloc (opO 3 g n m s tv)).cell? ⟨p.pb, 0, none⟩ = _ := hp0
 unfold opO at hc0 hci hc0' hci' hp0 hp0'
 unfold opV
 go_enter Tryz.func36, Tryz.ntmps36
 go_wp2
 go_region_with (go_at_call 75; refine (HPK.out _).mono ?_; rintro e w' ⟨rfl, rfl⟩)
 all_goals go_wp2_with (first | (go_at_call 23; refine HT.out.mono ?_; rintro e w2 ⟨vx, vn, vc, rfl, hq1, hq2, hq3⟩; have HQ3 : Hid (∀ w2', Below w2.heap.size w2 w2' -> Calls Tryz.prog 77 #[.slice vx vn vc, p.r.nowV] w2' _) := hq3; clear hq3) | (go_at_call 77; refine (HQ3.out _ (by repeat (first | exact Below.refl _ _ | refine Below.setCell ?_ (by first | exact Nat.le_refl _ | (simp; done) | (simp; omega)) _ | refine below_drewN ?_ _ | refine Below.drew ?_ | refine Below.alloc ?_ (by first | exact Nat.le_refl _ | (simp; done) | (simp; omega)) _))).mono ?_; rintro e w3 ⟨rfl, hq4⟩; have HQ4 : Hid (∀ w3', Below w3.heap.size w3 w3' -> Calls Tryz.prog 78 #[.pointer (some ⟨wb, 0, none⟩), .slice vx vn vc] w3' _) := hq4; clear hq4) | (go_at_call 78; refine (HQ4.out _ (by repeat (first | exact Below.refl _ _ | refine Below.setCell ?_ (by first | exact Nat.le_refl _ | (simp; done) | (simp; omega)) _ | refine below_drewN ?_ _ | refine Below.drew ?_ | refine Below.alloc ?_ (by first | exact Nat.le_refl _ | (simp; done) | (simp; omega)) _))).mono ?_; rintro e w4 ⟨rfl, hq5⟩; have HP : Hid (StepPost W wb V L us (.returned (.bool true)) w4) := hq5; clear hq5))
 all_goals (go_ret; exact HP.out)
theorem stepZ_asks {W w : World} {wb : Nat} {V : Int} {L : List PS} {pv l1 l3 : Value} {us ws : List Value} (hS : LSt W w wb V L pv l1 l3 us ws) (hn0 : 0 < L.length) (hn : L.length <= 8796093022208) (k g n m : Int) (hg : -9223372036854775808 <= g /\ g <= 9223372036854775807) (s : ByteArray) (tx : Option Addr) (tn tc : Nat) (z : Int) (hz : ¬ z < k) (h4 : 4 <= k) (h6 : k <= 6)
  (HAS : Hid (∀ (i : Nat) (p : PS) (w1 : World), L[i]? = some p -> Below w.heap.size w w1 -> Calls Tryz.prog 79 #[.pointer (some ⟨wb, 0, none⟩), .pointer (some ⟨p.pb, 0, none⟩), opV k g n m s (.slice tx tn tc)] w1 (StepPost W wb V L us))) :
  Calls Tryz.prog 36 #[.pointer (some ⟨wb, 0, none⟩), opV k g n m s (.slice tx tn tc), .int .i64 z] w (StepPost W wb V L us) := by
 have hb : Below w.heap.size w (w.alloc (opO k g n m s (.slice tx tn tc))).drew := ((Below.refl _ _).alloc (Nat.le_refl _) _).drew
 obtain ⟨i, p, pg, pc, hil, hi, rfl, hc0, hci, hpk⟩ := step_pick (hS.later hb) hn0 hn g hg
 have HW : Hid (Calls Tryz.prog 79 #[.pointer (some ⟨wb, 0, none⟩), .pointer (some ⟨p.pb, 0, none⟩), opV k g n m s (.slice tx tn tc)] (w.alloc (opO k g n m s (.slice tx tn tc))).drew (StepPost W wb V L us)) := HAS.out i p _ hi hb
 have HPK : Hid (∀ w1, Calls Tryz.prog 75 #[.int .i64 g, .int .i64 L.length] w1 fun e w' => e = .returned (.int .i64 i) /\ w' = w1) := hpk
 clear hS hb hi hpk HAS
 have hc0' : (w.alloc (opO k g n m s (.slice tx tn tc))).cell? ⟨wb, 0, none⟩ = _ := hc0
 have hci' : (w.alloc (opO k g n m s (.slice tx tn tc))).cell? ⟨pg, i, none⟩ = _ := hci
 have hk1 : ¬ k < 1 := by omega
 have e1 : (k == 1) = false := by simp; omega
 have e2 : (k == 2) = false := by simp; omega
 have e3 : (k == 3) = false := by simp; omega
 clear h4
 unfold opO at hc0 hci hc0' hci' HW
 unfold opV at HW ⊢
 go_enter Tryz.func36, Tryz.ntmps36
 go_wp2
 go_region_with (go_at_call 75; refine (HPK.out _).mono ?_; rintro e w' ⟨rfl, rfl⟩)
 all_goals go_wp2_with (go_at_call 79; refine HW.out.mono ?_; rintro e w' ⟨rfl, hp⟩; have HP : Hid (StepPost W wb V L us (.returned (.bool true)) w') := ⟨rfl, hp⟩; clear hp)
 all_goals (go_ret; exact HP.out)
theorem playsZ_zero (W : World) (x : Option Addr) (c : Nat) (z : Int) :
  Calls Tryz.prog 13 #[.slice x 0 c, .int .i64 z] W fun e w' => e = .returned (.bool true) /\ Below W.heap.size W w' := by
 have hz : (W.alloc (.cells #[.slice none 0 0, .slice none 0 0, .slice none 0 0] 61)).heap.size = W.heap.size + 1 := by simp
 have hr0 := play_open (LSt.start W) (by decide) (by simp) 2 3 open_two
 rw [hz] at hr0
 have HR : Hid (Calls Tryz.prog 34 #[] _ _) := hr0
 clear hr0 hz
 go_enter Tryz.func13, Tryz.ntmps13
 go_wp2_with (first | (go_at_call 34; refine HR.out.mono ?_; rintro e w1 ⟨rfl, ho⟩; have HO : Hid (Calls Tryz.prog 33 #[.pointer (some ⟨W.heap.size, 0, none⟩), _, _, _] w1 _) := ho; clear ho) | (go_at_call 33; refine HO.out.mono ?_; rintro e w4 ⟨rfl, pv2, p2, hS4, -⟩; have HS4 : Hid (LSt W w4 W.heap.size 0 [p1, p2] pv2 _ _ _ _) := hS4; clear hS4; obtain ⟨pg, pc, rfl, hq1, hq2, hq3, hq4⟩ := play_write HS4.out HX1.out.1 HX1.out.2.1 HX1.out.2.2; have HW5 : Hid (Calls Tryz.prog 24 #[.pointer (some ⟨p1.gb, 0, none⟩), .slice (some ⟨w4.heap.size, 0, none⟩) 2 2] (w4.alloc (.cells (strV batch0).toArray 9)) _) := hq4 _ ((Below.refl _ _).alloc (Nat.le_refl _) _) (alloc_new w4 (strV batch0) _); clear hq4; have hq1a := cell_a hq1; have hq2a := cell_a hq2; have hq3a := cell_a hq3) | (go_at_call 33; refine HO.out.mono ?_; rintro e w2 ⟨rfl, pv1, p1, hS2, hx1⟩; have HX1 : Hid (p1.xs = rulesL /\ p1.now = [] /\ p1.g.ver = 0) := hx1; clear hx1; have HR : Hid (Calls Tryz.prog 34 #[] _ _) := play_open hS2 (by decide) (by simp) 1 1 open_one; clear hS2) | (go_at_call 24; refine HW5.out.mono ?_; rintro e w6 ⟨rfl, ha1, ha2, ha3, hrw⟩; have HRW : Hid (∀ w7, Below w6.heap.size w6 w7 -> Calls Tryz.prog 35 #[.pointer (some ⟨p1.rb, 0, none⟩), .slice (some ⟨w4.heap.size, 0, none⟩) 2 2] w7 _) := hrw; clear hrw) | (go_at_call 35; refine (HRW.out _ (by repeat (first | exact Below.refl _ _ | refine Below.setCell ?_ (by first | exact Nat.le_refl _ | (simp; done) | (simp; omega)) _ | refine below_drewN ?_ _ | refine Below.drew ?_ | refine Below.alloc ?_ (by first | exact Nat.le_refl _ | (simp; done) | (simp; omega)) _))).mono ?_; rintro e w8 ⟨rfl, L8, hS8, hL8⟩; have HS8 : Hid (LSt W w8 W.heap.size 1 L8 _ _ _ _ _ /\ L8.length = 2) := ⟨hS8, hL8⟩; clear hS8 hL8))
 refine wp_loop_rounds 1 ?_
 rw [rounds_succ]
 go_wp2
 go_ret
 exact ⟨rfl, HS8.out.1.below⟩
end Go.Proofs.YtalmoiogbdahcaaGreat
