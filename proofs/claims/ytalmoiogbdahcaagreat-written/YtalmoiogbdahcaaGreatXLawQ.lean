import Derived.Test.YtalmoiogbdahcaaGreatXLawO

/- The statements' own write: the walk. -/
namespace Go.Proofs.YtalmoiogbdahcaaGreat
open Go.RowKit

def WritePost (Z w : World) (B : Nat) (V : Int) (p : PS) (e : Ending) (w' : World) : Prop :=
  e = .returned (.bool true) ∧ Calm (turns p) w w' ∧ Below Z.heap.size Z w' ∧ ∃ p', p'.pb = p.pb ∧ p'.gb = p.gb ∧ p'.rb = p.rb ∧ p'.xs = p.xs ∧ PairOk w' B (V + 1) p'
theorem PairOk.ne {w : World} {B : Nat} {V : Int} {p : PS} (h : PairOk w B V p) : p.gb ≠ p.rb := by
  intro e
  have a := h.pg; have b := h.rg
  unfold PgAt at a; unfold RgAt at b
  rw [e, b] at a; injection a with a; injection a with _ a; revert a; decide
theorem wr_g {w w1 : World} {B : Nat} {V : Int} {p : PS} (h : PairOk w B V p) (hV : V ≤ 4611686018427387904) (hb1 : Below w.heap.size w w1) {v : Value} {xs : List ByteArray} (ht : TxtOff w1 v xs p.gb) (hl : xs.length ≤ maxLen) (hsz : ∀ x ∈ xs, x.size ≤ 140737488355328) {gv ga ge : Int} {res : Sum (Nat × Int) (List ByteArray)} (hres : wrRes (ruleOfs p.xs) p.now xs = res) (he : wrV p.g.ver res = gv ∧ wrA res = ga ∧ wrE res = ge) :
    Calls Tryz.prog 24 #[.pointer (some ⟨p.gb, 0, none⟩), v] w1 fun e w2 => e = .returned (.tuple #[.int .i64 gv, .int .i64 ga, .int .i64 ge]) ∧ PWPost w1 p.gb p.g res e w2 := by
  obtain ⟨rfl, rfl, rfl⟩ := he
  subst hres
  exact (pairGW (h.keep (SK.below (X := fun _ => False) hb1) id id) hV ht hl hsz).mono fun e w2 hp => ⟨pw_ret hp, hp⟩
theorem wr_c {w w3 : World} {B : Nat} {V : Int} {p : PS} (h : PairOk w B V p) (c3 : Calm (turns p) w w3) : w3.cell? ⟨p.pb, 1, none⟩ = some (.pointer (some ⟨p.rb, 0, none⟩)) :=
  row_cell (c3.sk.block _ _ h.pair (by show mutT 65 = false; decide) (Or.inl (by show gateT 65 = false; decide))) (j := 1) rfl
theorem wr_r {Z w w1 w2 w3 : World} {B : Nat} {V : Int} {p : PS} (h : PairOk w B V p) (hV : V ≤ 4611686018427387904) (hb1 : Below w.heap.size w w1) {v : Value} {xs : List ByteArray} {e2 : Ending} {gv ga ge : Int} {res : Sum (Nat × Int) (List ByteArray)} (hres : wrRes (ruleOfs p.xs) p.now xs = res) (he : wrV p.g.ver res = gv ∧ wrA res = ga ∧ wrE res = ge)
    (hp2 : PWPost w1 p.gb p.g res e2 w2) (h23 : ∀ k, k < w2.heap.size → (k < w.heap.size ∨ w1.heap.size ≤ k) → w3.heap[k]? = w2.heap[k]?) (c3 : Calm (turns p) w w3) (hZ : Z.heap.size ≤ p.gb ∧ Z.heap.size ≤ p.rb) (hb3 : Below Z.heap.size Z w3) (ht : TxtS w3 v xs) (hl : xs.length ≤ maxLen) (hsz : ∀ x ∈ xs, x.size ≤ 140737488355328) :
    Calls Tryz.prog 35 #[.pointer (some ⟨p.rb, 0, none⟩), v] w3 fun e w4 => e = .returned (.tuple #[.int .i64 gv, .int .i64 ga, .int .i64 ge]) ∧ WritePost Z w B V p (.returned (.bool true)) w4 := by
  obtain ⟨rfl, rfl, rfl⟩ := he
  have hrw : p.rb < w.heap.size := row_lt h.rg
  have hrg3 : RgAt w3 p.rb p.r := by
    have a1 : w1.heap[p.rb]? = w.heap[p.rb]? := hb1.block _ hrw
    have a2 : w2.heap[p.rb]? = w1.heap[p.rb]? := hp2.1.block _ (by have := hb1.size; omega) (by intro e; injection e with e; exact h.ne e.symm)
    unfold RgAt
    rw [h23 _ (by have := hb1.size; have := hp2.1.size; omega) (Or.inl hrw), a2, a1]; exact h.rg
  have := pairRW h hrg3 (c3.sk.rules h.rules) (c3.sk.strT h.nv) hV ht hl hsz
  rw [hres] at this
  refine this.mono ?_
  intro e w' hp4
  exact ⟨by rw [w_ret hp4, h.ver], rfl, pair_end h hres hb1 hp2 h23 c3 hZ hb3 hp4⟩

set_option maxRecDepth 100000 in
set_option maxHeartbeats 4000000 in
theorem lawWrite_nil {Z w : World} {B : Nat} {V : Int} {p : PS} (h : PairOk w B V p) (hV : V ≤ 4611686018427387904) (hZ : Z.heap.size ≤ p.gb ∧ Z.heap.size ≤ p.rb) (hbZ : Below Z.heap.size Z w) :
    Calls Tryz.prog 76 #[.pointer (some ⟨p.pb, 0, none⟩), .slice none 0 0] w (WritePost Z w B V p) := by
  have c0 := row_cell h.pair (j := 0) rfl
  obtain ⟨res, hres⟩ : ∃ res, wrRes (ruleOfs p.xs) p.now [] = res := ⟨_, rfl⟩
  obtain ⟨gv, hgv⟩ : ∃ x, wrV p.g.ver res = x := ⟨_, rfl⟩
  obtain ⟨ga, hga⟩ : ∃ x, wrA res = x := ⟨_, rfl⟩
  obtain ⟨ge, hge⟩ : ∃ x, wrE res = x := ⟨_, rfl⟩
  have hbd : Below w.heap.size w w.drew := (Below.refl _ _).drew
  have HGW := wr_g h hV hbd (xs := []) (Or.inl ⟨rfl, rfl⟩) (Nat.zero_le _) (fun x hx => absurd hx List.not_mem_nil) hres ⟨hgv, hga, hge⟩
  have HRW : Hid (∀ w2 e2, PWPost w.drew p.gb p.g res e2 w2 → w2.cell? ⟨p.pb, 1, none⟩ = some (.pointer (some ⟨p.rb, 0, none⟩)) ∧ Calls Tryz.prog 35 #[.pointer (some ⟨p.rb, 0, none⟩), .slice none 0 0] w2 fun e w' => e = .returned (.tuple #[.int .i64 gv, .int .i64 ga, .int .i64 ge]) ∧ WritePost Z w B V p (.returned (.bool true)) w') := by
    intro w2 e2 hp2
    have c2 : Calm (turns p) w w2 := (Calm.below hbd).trans (Calm.gate hp2.1 (cs := p.g.cells) h.pg (by decide) (Or.inl rfl))
    exact ⟨wr_c h c2, wr_r h hV hbd hres ⟨hgv, hga, hge⟩ hp2 (fun k _ _ => rfl) c2 hZ (hbZ.drew.grown hp2.1 hbZ.size (fun j hj => by injection hj with hj; rw [← hj]; exact hZ.1)) (Or.inl (Or.inl ⟨rfl, rfl⟩)) (Nat.zero_le _) (fun x hx => absurd hx List.not_mem_nil)⟩
  have HGG : Hid (Calls Tryz.prog 24 #[.pointer (some ⟨p.gb, 0, none⟩), .slice none 0 0] w.drew _) := HGW
  have e1 : (gv == gv) = true := by simp
  have e2 : (ga == ga) = true := by simp
  have e3 : (ge == ge) = true := by simp
  clear hgv hga hge h hV hZ hbZ hbd HGW hres
  go_enter Tryz.func76, Tryz.ntmps76
  go_wp2_with (go_at_call 68; refine (handed_nil w).mono ?_; rintro e w1 ⟨rfl, rfl⟩)
  go_region_with (go_at_call 24; refine HGG.out.mono ?_; rintro e w2 ⟨rfl, hp2⟩; obtain ⟨hc2, hrw⟩ := HRW.out w2 _ hp2; have HRR : Hid (Calls Tryz.prog 35 #[.pointer (some ⟨p.rb, 0, none⟩), .slice none 0 0] w2 _) := hrw; clear hrw)
  all_goals go_wp2_with (first | (go_at_call 69; refine (still_nil _).mono ?_; rintro e w3 ⟨rfl, rfl⟩) | (go_at_call 35; refine HRR.out.mono ?_; rintro e w4 ⟨rfl, hpost⟩; have HPOST : Hid (WritePost Z _ B V p (.returned (.bool true)) w4) := hpost; clear hpost))
  go_ret
  exact HPOST.out

set_option maxRecDepth 100000 in
set_option maxHeartbeats 4000000 in
theorem lawWrite_some {Z w : World} {B : Nat} {V : Int} {p : PS} (h : PairOk w B V p) (hV : V ≤ 4611686018427387904) (hZ : Z.heap.size ≤ p.gb ∧ Z.heap.size ≤ p.rb) (hbZ : Below Z.heap.size Z w) (b off cap : Nat) (xs : List ByteArray) (hc : ∀ i x, xs[i]? = some x → w.cell? ⟨b, off + i, none⟩ = some (.string x)) (hb : b < Z.heap.size) (hl : xs.length ≤ 8796093022208) (hsz : ∀ x ∈ xs, x.size ≤ 140737488355328) :
    Calls Tryz.prog 76 #[.pointer (some ⟨p.pb, 0, none⟩), .slice (some ⟨b, off, none⟩) xs.length cap] w (WritePost Z w B V p) := by
  have hml : xs.length ≤ maxLen := by unfold maxLen; omega
  have hgw : p.gb < w.heap.size := row_lt h.pg
  have hbw : b ≠ w.heap.size := by have := hbZ.size; omega
  have hbg : b ≠ p.gb := by have := hZ.1; omega
  obtain ⟨res, hres⟩ : ∃ res, wrRes (ruleOfs p.xs) p.now xs = res := ⟨_, rfl⟩
  obtain ⟨gv, hgv⟩ : ∃ x, wrV p.g.ver res = x := ⟨_, rfl⟩
  obtain ⟨ga, hga⟩ : ∃ x, wrA res = x := ⟨_, rfl⟩
  obtain ⟨ge, hge⟩ : ∃ x, wrE res = x := ⟨_, rfl⟩
  have HHD : Hid (Calls Tryz.prog 68 #[.slice (some ⟨b, off, none⟩) xs.length cap] w _) := handed_any b off cap xs w hc hl
  have HGW : Hid (∀ w1, RowAt w1 w.heap.size (xs ++ List.replicate 8 markS) → Below w.heap.size w w1 → w1.cell? ⟨p.pb, 0, none⟩ = some (.pointer (some ⟨p.gb, 0, none⟩)) ∧ Calls Tryz.prog 24 #[.pointer (some ⟨p.gb, 0, none⟩), .slice (some ⟨w.heap.size, 0, none⟩) xs.length (xs.length + 8)] w1.drew fun e w2 => e = .returned (.tuple #[.int .i64 gv, .int .i64 ga, .int .i64 ge]) ∧
      Calls Tryz.prog 69 #[.slice (some ⟨w.heap.size, 0, none⟩) (xs.length + 8) (xs.length + 8), .slice (some ⟨b, off, none⟩) xs.length cap] w2 fun e w3 => e = .returned (.bool true) ∧ w3.cell? ⟨p.pb, 1, none⟩ = some (.pointer (some ⟨p.rb, 0, none⟩)) ∧
        Calls Tryz.prog 35 #[.pointer (some ⟨p.rb, 0, none⟩), .slice (some ⟨b, off, none⟩) xs.length cap] w3 fun e w' => e = .returned (.tuple #[.int .i64 gv, .int .i64 ga, .int .i64 ge]) ∧ WritePost Z w B V p (.returned (.bool true)) w') := by
    intro w1 hrow hb1
    have hw1 : w.heap.size < w1.heap.size := row_lt hrow
    have hbd : Below w.heap.size w w1.drew := hb1.drew
    refine ⟨row_cell (by rw [hb1.block _ (row_lt h.pair)]; exact h.pair) (j := 0) rfl, ?_⟩
    refine (wr_g h hV hbd (Or.inr ⟨w.heap.size, 0, xs.length + 8, rfl, by omega, ?_⟩) hml hsz hres ⟨hgv, hga, hge⟩).mono ?_
    · intro i x hx
      rw [Nat.zero_add]
      refine row_cell (row_drew hrow) (strV_get ?_)
      rw [List.getElem?_append_left (List.getElem?_eq_some_iff.1 hx).1]; exact hx
    · rintro e w2 ⟨rfl, hp2⟩
      refine ⟨rfl, ?_⟩
      have hs2 : w1.heap.size ≤ w2.heap.size := hp2.1.size
      have hrow2 : RowAt w2 w.heap.size (xs ++ List.replicate 8 markS) := by unfold RowAt; rw [hp2.1.block _ hw1 (by intro e; injection e with e; omega)]; exact hrow
      have hc2 : ∀ i x, xs[i]? = some x → w2.cell? ⟨b, off + i, none⟩ = some (.string x) := by
        intro i x hx
        have a := hc i x hx
        have hlt := cell_lt a
        rw [(kcell hp2.1).1 b _ (by show b < w1.heap.size; omega) hbg]
        exact (hb1.cell hlt).trans a
      refine (still_any b off cap w.heap.size xs w2 hc2 hbw hl hrow2).mono ?_
      rintro e w3 ⟨rfl, hk3⟩
      have c2 : Calm (turns p) w w2 := (Calm.below hbd).trans (Calm.gate hp2.1 (cs := p.g.cells) (by rw [row_drew (hb1.block _ hgw)]; exact h.pg) (by decide) (Or.inl rfl))
      have c3 := c2.new hk3 (Nat.le_refl _)
      have hb2 : Below Z.heap.size Z w2 := ((hbZ.trans (hb1.mono hbZ.size)).drew).grown hp2.1 (Nat.le_trans hbZ.size (Nat.le_of_lt hw1)) (fun j hj => by injection hj with hj; rw [← hj]; exact hZ.1)
      refine ⟨rfl, wr_c h c3, wr_r h hV hbd hres ⟨hgv, hga, hge⟩ hp2 (fun k hk hd => hk3.block k hk ?_) c3 hZ (hb2.grown hk3 hb2.size (fun j hj => by injection hj with hj; rw [← hj]; exact hbZ.size)) (Or.inl (Or.inr ⟨b, off, cap, rfl, ?_⟩)) hml hsz⟩
      · intro e; injection e with e
        rcases hd with hd | hd
        · omega
        · have : w1.heap.size ≤ k := hd
          omega
      · intro i x hx
        have a := hc2 i x hx
        rw [(kcell hk3).1 b _ (cell_lt a) hbw]; exact a
  have e1 : (gv == gv) = true := by simp
  have e2 : (ga == ga) = true := by simp
  have e3 : (ge == ge) = true := by simp
  clear hgv hga hge h hV hZ hbZ hres hc hsz hgw hbw hbg
  go_enter Tryz.func76, Tryz.ntmps76
  go_wp2_with (go_at_call 68; refine HHD.out.mono ?_; rintro e w1 ⟨rfl, hrow1, hb1⟩; obtain ⟨hc1, hgw⟩ := HGW.out w1 hrow1 hb1; have HGG : Hid (Calls Tryz.prog 24 #[.pointer (some ⟨p.gb, 0, none⟩), .slice (some ⟨w.heap.size, 0, none⟩) xs.length (xs.length + 8)] w1.drew _) := hgw; clear hgw)
  go_region_with (go_at_call 24; refine HGG.out.mono ?_; rintro e w2 ⟨rfl, hst⟩; have HST : Hid (Calls Tryz.prog 69 #[.slice (some ⟨w.heap.size, 0, none⟩) (xs.length + 8) (xs.length + 8), .slice (some ⟨b, off, none⟩) xs.length cap] w2 _) := hst; clear hst)
  all_goals go_wp2_with (first | (go_at_call 69; refine HST.out.mono ?_; rintro e w3 ⟨rfl, hc3, hrw⟩; have HRR : Hid (Calls Tryz.prog 35 #[.pointer (some ⟨p.rb, 0, none⟩), .slice (some ⟨b, off, none⟩) xs.length cap] w3 _) := hrw; clear hrw) | (go_at_call 35; refine HRR.out.mono ?_; rintro e w4 ⟨rfl, hpost⟩; have HPOST : Hid (WritePost Z w B V p (.returned (.bool true)) w4) := hpost; clear hpost))
  all_goals (go_ret; exact HPOST.out)

end Go.Proofs.YtalmoiogbdahcaaGreat

/- The statements' own write, of a list of nothing. -/
namespace Go.Proofs.YtalmoiogbdahcaaGreat
open Go.RowKit

set_option maxRecDepth 100000 in
set_option maxHeartbeats 4000000 in
theorem lawWrite_zero {Z w : World} {B : Nat} {V : Int} {p : PS} (h : PairOk w B V p) (hV : V ≤ 4611686018427387904) (hZ : Z.heap.size ≤ p.gb ∧ Z.heap.size ≤ p.rb) (hbZ : Below Z.heap.size Z w) (a : Addr) :
    Calls Tryz.prog 76 #[.pointer (some ⟨p.pb, 0, none⟩), .slice (some a) 0 0] w (WritePost Z w B V p) := by
  have hgw : p.gb < w.heap.size := row_lt h.pg
  obtain ⟨res, hres⟩ : ∃ res, wrRes (ruleOfs p.xs) p.now [] = res := ⟨_, rfl⟩
  obtain ⟨gv, hgv⟩ : ∃ x, wrV p.g.ver res = x := ⟨_, rfl⟩
  obtain ⟨ga, hga⟩ : ∃ x, wrA res = x := ⟨_, rfl⟩
  obtain ⟨ge, hge⟩ : ∃ x, wrE res = x := ⟨_, rfl⟩
  have HHD : Hid (Calls Tryz.prog 68 #[.slice (some a) 0 0] w _) := handed_zero a w
  have HGW : Hid (∀ w1, RowAt w1 w.heap.size (List.replicate 8 markS) → Below w.heap.size w w1 → w1.cell? ⟨p.pb, 0, none⟩ = some (.pointer (some ⟨p.gb, 0, none⟩)) ∧ Calls Tryz.prog 24 #[.pointer (some ⟨p.gb, 0, none⟩), .slice (some ⟨w.heap.size, 0, none⟩) 0 8] w1.drew fun e w2 => e = .returned (.tuple #[.int .i64 gv, .int .i64 ga, .int .i64 ge]) ∧
      Calls Tryz.prog 69 #[.slice (some ⟨w.heap.size, 0, none⟩) 8 8, .slice (some a) 0 0] w2 fun e w3 => e = .returned (.bool true) ∧ w3.cell? ⟨p.pb, 1, none⟩ = some (.pointer (some ⟨p.rb, 0, none⟩)) ∧
        Calls Tryz.prog 35 #[.pointer (some ⟨p.rb, 0, none⟩), .slice (some a) 0 0] w3 fun e w' => e = .returned (.tuple #[.int .i64 gv, .int .i64 ga, .int .i64 ge]) ∧ WritePost Z w B V p (.returned (.bool true)) w') := by
    intro w1 hrow hb1
    have hw1 : w.heap.size < w1.heap.size := row_lt hrow
    have hbd : Below w.heap.size w w1.drew := hb1.drew
    refine ⟨row_cell (by rw [hb1.block _ (row_lt h.pair)]; exact h.pair) (j := 0) rfl, ?_⟩
    refine (wr_g h hV hbd (xs := []) (Or.inr ⟨w.heap.size, 0, 8, rfl, by omega, fun i x hx => by simp at hx⟩) (Nat.zero_le _) (fun x hx => absurd hx List.not_mem_nil) hres ⟨hgv, hga, hge⟩).mono ?_
    · rintro e w2 ⟨rfl, hp2⟩
      refine ⟨rfl, ?_⟩
      have hs2 : w1.heap.size ≤ w2.heap.size := hp2.1.size
      have hrow2 : RowAt w2 w.heap.size (List.replicate 8 markS) := by unfold RowAt; rw [hp2.1.block _ hw1 (by intro e; injection e with e; omega)]; exact hrow
      refine (still_zero a w.heap.size w2 hrow2).mono ?_
      rintro e w3 ⟨rfl, hk3⟩
      have c2 : Calm (turns p) w w2 := (Calm.below hbd).trans (Calm.gate hp2.1 (cs := p.g.cells) (by rw [row_drew (hb1.block _ hgw)]; exact h.pg) (by decide) (Or.inl rfl))
      have c3 := c2.new hk3 (Nat.le_refl _)
      have hb2 : Below Z.heap.size Z w2 := ((hbZ.trans (hb1.mono hbZ.size)).drew).grown hp2.1 (Nat.le_trans hbZ.size (Nat.le_of_lt hw1)) (fun j hj => by injection hj with hj; rw [← hj]; exact hZ.1)
      refine ⟨rfl, wr_c h c3, wr_r h hV hbd hres ⟨hgv, hga, hge⟩ hp2 (fun k hk hd => hk3.block k hk ?_) c3 hZ (hb2.grown hk3 hb2.size (fun j hj => by injection hj with hj; rw [← hj]; exact hbZ.size)) (Or.inr ⟨a, rfl, rfl⟩) (Nat.zero_le _) (fun x hx => absurd hx List.not_mem_nil)⟩
      · intro e; injection e with e
        rcases hd with hd | hd
        · omega
        · have : w1.heap.size ≤ k := hd
          omega
  have e1 : (gv == gv) = true := by simp
  have e2 : (ga == ga) = true := by simp
  have e3 : (ge == ge) = true := by simp
  clear hgv hga hge h hV hZ hbZ hres hgw
  go_enter Tryz.func76, Tryz.ntmps76
  go_wp2_with (go_at_call 68; refine HHD.out.mono ?_; rintro e w1 ⟨rfl, hrow1, hb1⟩; obtain ⟨hc1, hgw⟩ := HGW.out w1 hrow1 hb1; have HGG : Hid (Calls Tryz.prog 24 #[.pointer (some ⟨p.gb, 0, none⟩), .slice (some ⟨w.heap.size, 0, none⟩) 0 8] w1.drew _) := hgw; clear hgw)
  go_region_with (go_at_call 24; refine HGG.out.mono ?_; rintro e w2 ⟨rfl, hst⟩; have HST : Hid (Calls Tryz.prog 69 #[.slice (some ⟨w.heap.size, 0, none⟩) 8 8, .slice (some a) 0 0] w2 _) := hst; clear hst)
  all_goals go_wp2_with (first | (go_at_call 69; refine HST.out.mono ?_; rintro e w3 ⟨rfl, hc3, hrw⟩; have HRR : Hid (Calls Tryz.prog 35 #[.pointer (some ⟨p.rb, 0, none⟩), .slice (some a) 0 0] w3 _) := hrw; clear hrw) | (go_at_call 35; refine HRR.out.mono ?_; rintro e w4 ⟨rfl, hpost⟩; have HPOST : Hid (WritePost Z w B V p (.returned (.bool true)) w4) := hpost; clear hpost))
  all_goals (go_ret; exact HPOST.out)

end Go.Proofs.YtalmoiogbdahcaaGreat

/- A step of a script. -/
namespace Go.Proofs.YtalmoiogbdahcaaGreat
open Go.RowKit

def opV (k g n m : Int) (s : ByteArray) (tv : Value) : Value := .agg #[.int .i64 k, .int .i64 g, .int .i64 n, .int .i64 m, .string s, tv]
def opO (k g n m : Int) (s : ByteArray) (tv : Value) : Obj := .cells #[.int .i64 k, .int .i64 g, .int .i64 n, .int .i64 m, .string s, tv] 69
theorem LSt.more {W w : World} {wb : Nat} {V V' : Int} {L : List PS} {pv l1 l3 : Value} {us ws : List Value} (h : LSt W w wb V L pv l1 l3 us ws) (hV : V ≤ V') : LSt W w wb V' L pv l1 l3 us ws :=
  { h with pairs := fun p hp => (h.pairs p hp).more hV }
theorem LSt.later {W w w' : World} {wb : Nat} {V : Int} {L : List PS} {pv l1 l3 : Value} {us ws : List Value} (h : LSt W w wb V L pv l1 l3 us ws) (hb : Below w.heap.size w w') : LSt W w' wb V L pv l1 l3 us ws :=
  h.calm (Calm.below (X := nobody) hb) (h.below.trans (hb.mono h.below.size)) L (fun p hp => (h.pairs p hp).keep (SK.below (X := nobody) hb) id id) rfl rfl rfl
def StepPost (W : World) (wb : Nat) (V : Int) (L : List PS) (us : List Value) (e : Ending) (w' : World) : Prop :=
  e = .returned (.bool true) ∧ ∃ L' pv' l1' l3' us' ws', LSt W w' wb (V + 1) L' pv' l1' l3' us' ws' ∧ L.length ≤ L'.length ∧ L'.length ≤ L.length + 1 ∧ us'.length ≤ us.length + 1

set_option maxRecDepth 100000 in
set_option maxHeartbeats 4000000 in
theorem step_idle {W w : World} {wb : Nat} {V : Int} {L : List PS} {pv l1 l3 : Value} {us ws : List Value} (hS : LSt W w wb V L pv l1 l3 us ws) (k g n m : Int) (s : ByteArray) (tv : Value) (hk : k < 1 ∨ 3 < k) :
    Calls Tryz.prog 36 #[.pointer (some ⟨wb, 0, none⟩), opV k g n m s tv, .int .i64 3] w (StepPost W wb V L us) := by
  have HP : Hid (StepPost W wb V L us (.returned (.bool true)) (w.alloc (opO k g n m s tv))) := ⟨rfl, L, pv, l1, l3, us, ws, (hS.later ((Below.refl _ _).alloc (Nat.le_refl _) _)).more (by omega), Nat.le_refl _, Nat.le_succ _, Nat.le_succ _⟩
  clear hS
  unfold opV
  rcases hk with hk | hk
  · go_enter Tryz.func36, Tryz.ntmps36
    go_wp2
    go_ret
    exact HP.out
  · have hk1 : ¬ k < 1 := by omega
    go_enter Tryz.func36, Tryz.ntmps36
    go_wp2
    go_ret
    exact HP.out

set_option maxRecDepth 100000 in
set_option maxHeartbeats 4000000 in
theorem step_open {W w : World} {wb : Nat} {V : Int} {L : List PS} {pv l1 l3 : Value} {us ws : List Value} (hS : LSt W w wb V L pv l1 l3 us ws) (hV : 0 ≤ V) (hn : L.length ≤ 8796093022208) (g n m : Int) (s : ByteArray) (tv : Value) (xs : List ByteArray) (ht : TxtAt W tv xs) (hl : xs.length ≤ 8796093022208) (hsz : ∀ x ∈ xs, x.size ≤ 140737488355328) :
    Calls Tryz.prog 36 #[.pointer (some ⟨wb, 0, none⟩), opV 1 g n m s tv, .int .i64 3] w (StepPost W wb V L us) := by
  have hb : Below w.heap.size w (w.alloc (opO 1 g n m s tv)) := (Below.refl _ _).alloc (Nat.le_refl _) _
  have HO : Hid (Calls Tryz.prog 33 #[.pointer (some ⟨wb, 0, none⟩), tv, .int .i64 n, .int .i64 m] (w.alloc (opO 1 g n m s tv)) (StepPost W wb V L us)) := by
    have hS' := hS.later hb
    refine (lawOpen_any hS' hV hn tv xs n m ?_ hl (fun x hx => Nat.le_trans (hsz x hx) (by unfold maxLen; omega))).mono ?_
    · rcases ht with h | h | ⟨b, off, cap, rfl, h1, h2⟩
      · exact Or.inl h
      · exact Or.inr (Or.inl h)
      · exact Or.inr <| Or.inr ⟨b, off, cap, rfl, Nat.lt_of_lt_of_le h1 hS'.below.size, fun i x hx => (hS'.below.cell h1).trans (h2 i x hx)⟩
    · rintro e w' ⟨pv', L', rfl, h1, h2⟩
      refine ⟨rfl, L', pv', l1, l3, us, ws, h1.more (by omega), ?_, ?_, Nat.le_succ _⟩ <;> rcases h2 with ⟨-, rfl⟩ | ⟨-, p, rfl, -⟩ <;> simp
  have htv : ∃ tx tn tc, tv = .slice tx tn tc := by
    rcases ht with ⟨rfl, -⟩ | ⟨a, rfl, -⟩ | ⟨b, off, cap, rfl, -⟩
    · exact ⟨_, _, _, rfl⟩
    · exact ⟨_, _, _, rfl⟩
    · exact ⟨_, _, _, rfl⟩
  obtain ⟨tx, tn, tc, rfl⟩ := htv
  clear hS ht hl hsz hb hV hn
  unfold opV
  go_enter Tryz.func36, Tryz.ntmps36
  go_wp2_with (go_at_call 33; refine HO.out.mono ?_; rintro e w' ⟨rfl, hp⟩; have HP : Hid (StepPost W wb V L us (.returned (.bool true)) w') := ⟨rfl, hp⟩; clear hp)
  go_ret
  exact HP.out

end Go.Proofs.YtalmoiogbdahcaaGreat

/- A step of a script: Write. -/
namespace Go.Proofs.YtalmoiogbdahcaaGreat
open Go.RowKit

theorem owns_vals {w : World} {base : Nat} {t : TypeId} {v : Value} {us : List Value} (h : w.ownsRow base t 1 v us.length us) : ValsAt w v us := by
  rcases h.2 with ⟨hv, hn⟩ | ⟨g, cap, cur, hv, hg, hh, -, -, -, ht⟩
  · exact Or.inl ⟨hv, List.eq_nil_of_length_eq_zero hn⟩
  · refine Or.inr ⟨g, cap, hv, fun i x hx => ?_⟩
    have hl : i < us.length := (List.getElem?_eq_some_iff.1 hx).1
    have hh' : w.heap[g]? = some (.cells cur.toList.toArray t (0, 0)) := by rw [Array.toArray_toList]; exact hh
    refine row_cell hh' (j := i) ?_
    rw [Nat.mul_one] at ht
    rw [← hx, ← ht, List.getElem?_take, if_pos hl]
theorem nodup_ne {L : List PS} {f : PS → Nat} (h : (L.map f).Nodup) {i j : Nat} {p q : PS} (hi : L[i]? = some p) (hj : L[j]? = some q) (hne : i ≠ j) : f p ≠ f q := by
  intro e
  refine hne ((List.getElem?_inj (l := L.map f) ?_ h).1 ?_)
  · rw [List.length_map]; exact (List.getElem?_eq_some_iff.1 hi).1
  · rw [List.getElem?_map, List.getElem?_map, hi, hj]; simp [e]
theorem gate_ne {w : World} {B : Nat} {V : Int} {p q : PS} (h : PairOk w B V p) (g : PairOk w B V q) : p.gb ≠ q.rb := by
  intro e
  have a := h.pg; have b := g.rg
  unfold PgAt at a; unfold RgAt at b
  rw [e, b] at a; injection a with a; injection a with _ a; revert a; decide
/-- one pair has turned. -/
theorem LSt.turned {W w w' : World} {wb : Nat} {V : Int} {L : List PS} {pv l1 l3 : Value} {us ws : List Value} (h : LSt W w wb V L pv l1 l3 us ws) {i : Nat} {p p' : PS} (hi : L[i]? = some p) (c : Calm (turns p) w w') (hb : Below W.heap.size W w') {V' : Int} (hV : V ≤ V') (h1 : p'.pb = p.pb) (h2 : p'.gb = p.gb) (h3 : p'.rb = p.rb) (hp : PairOk w' W.heap.size V' p') : LSt W w' wb V' (L.set i p') pv l1 l3 us ws := by
  have hil : i < L.length := (List.getElem?_eq_some_iff.1 hi).1
  have hpi := h.pairs p (List.mem_iff_getElem?.2 ⟨i, hi⟩)
  have hmap : ∀ f : PS → Nat, f p' = f p → (L.set i p').map f = L.map f := by
    intro f hf
    refine List.ext_getElem? fun j => ?_
    rw [List.getElem?_map, List.getElem?_map, List.getElem?_set]
    split
    · rename_i e; subst e; rw [hi]; simp [hf]
    · rfl
  refine h.calm c hb _ ?_ (hmap _ h1) (hmap _ h2) (hmap _ h3)
  intro q hq
  obtain ⟨j, hj⟩ := List.mem_iff_getElem?.1 hq
  rw [List.getElem?_set] at hj
  split at hj
  · injection hj with hj; subst hj; exact hp
  · rename_i e
    have hqj := h.pairs q (List.mem_iff_getElem?.2 ⟨j, hj⟩)
    refine (hqj.keep c.sk ?_ ?_).more hV
    · rintro (a | a)
      · exact nodup_ne h.gnd hj hi (Ne.symm e) a
      · exact gate_ne hqj hpi a
    · rintro (a | a)
      · exact gate_ne hpi hqj a.symm
      · exact nodup_ne h.rnd hj hi (Ne.symm e) a

theorem lawWrite_any {W w : World} {wb : Nat} {V : Int} {L : List PS} {pv l1 l3 : Value} {us ws : List Value} (hS : LSt W w wb V L pv l1 l3 us ws) (hV : V ≤ 4611686018427387904) {i : Nat} {p : PS} (hi : L[i]? = some p) (tv : Value) (xs : List ByteArray) (ht : TxtAt W tv xs) (hl : xs.length ≤ 8796093022208) (hsz : ∀ x ∈ xs, x.size ≤ 140737488355328) :
    Calls Tryz.prog 76 #[.pointer (some ⟨p.pb, 0, none⟩), tv] w (StepPost W wb V L us) := by
  have hp := hS.pairs p (List.mem_iff_getElem?.2 ⟨i, hi⟩)
  have key : Calls Tryz.prog 76 #[.pointer (some ⟨p.pb, 0, none⟩), tv] w (WritePost W w W.heap.size V p) := by
    rcases ht with ⟨rfl, rfl⟩ | ⟨a, rfl, rfl⟩ | ⟨b, off, cap, rfl, h1, h2⟩
    · exact lawWrite_nil hp hV ⟨hp.gB, hp.rB⟩ hS.below
    · exact lawWrite_zero hp hV ⟨hp.gB, hp.rB⟩ hS.below a
    · exact lawWrite_some hp hV ⟨hp.gB, hp.rB⟩ hS.below b off cap xs (fun i x hx => (hS.below.cell h1).trans (h2 i x hx)) h1 hl hsz
  refine key.mono ?_
  rintro e w' ⟨rfl, hc, hb, p', e1, e2, e3, -, hp'⟩
  exact ⟨rfl, L.set i p', pv, l1, l3, us, ws, hS.turned hi hc hb (by omega) e1 e2 e3 hp', by rw [List.length_set]; exact Nat.le_refl _, by rw [List.length_set]; exact Nat.le_succ _, Nat.le_succ _⟩

/-- which pair a number speaks of. -/
theorem step_pick {W w : World} {wb : Nat} {V : Int} {L : List PS} {pv l1 l3 : Value} {us ws : List Value} (hS : LSt W w wb V L pv l1 l3 us ws) (hn0 : 0 < L.length) (hn : L.length ≤ 8796093022208) (g : Int) (hg : -9223372036854775808 ≤ g ∧ g ≤ 9223372036854775807) :
    ∃ (i : Nat) (p : PS) (pg pc : Nat), i < L.length ∧ L[i]? = some p ∧ pv = .slice (some ⟨pg, 0, none⟩) L.length pc ∧ w.cell? ⟨wb, 0, none⟩ = some pv ∧ w.cell? ⟨pg, i, none⟩ = some (.pointer (some ⟨p.pb, 0, none⟩)) ∧
      ∀ w1, Calls Tryz.prog 75 #[.int .i64 g, .int .i64 L.length] w1 fun e w' => e = .returned (.int .i64 i) ∧ w' = w1 := by
  obtain ⟨h1, h2⟩ := pickN_bd g L.length (by omega)
  obtain ⟨i, hi⟩ := Int.eq_ofNat_of_zero_le h1
  rw [hi] at h2
  have hil : i < L.length := by omega
  have hv := hS.op
  have hlen : L.length = (L.map fun p => Value.pointer (some ⟨p.pb, 0, none⟩)).length := by rw [List.length_map]
  rw [hlen] at hv
  rcases owns_vals hv with ⟨-, e⟩ | ⟨pg, pc, hpv, hc⟩
  · have := congrArg List.length e
    rw [List.length_map] at this
    change L.length = 0 at this
    omega
  · rw [List.length_map] at hpv
    refine ⟨i, L[i], pg, pc, hil, List.getElem?_eq_getElem hil, hpv, row_cell hS.lw (j := 0) rfl, hc i _ ?_, fun w1 => ?_⟩
    · rw [List.getElem?_map, List.getElem?_eq_getElem hil]; rfl
    · rw [← hi]; exact pick_any g L.length w1 hg.1 hg.2 (by omega) (by omega)

end Go.Proofs.YtalmoiogbdahcaaGreat

/- A step of a script: Write, walked. -/
namespace Go.Proofs.YtalmoiogbdahcaaGreat
open Go.RowKit

set_option maxRecDepth 100000 in
set_option maxHeartbeats 4000000 in
theorem step_write {W w : World} {wb : Nat} {V : Int} {L : List PS} {pv l1 l3 : Value} {us ws : List Value} (hS : LSt W w wb V L pv l1 l3 us ws) (hV : V ≤ 4611686018427387904) (hn0 : 0 < L.length) (hn : L.length ≤ 8796093022208) (g n m : Int) (hg : -9223372036854775808 ≤ g ∧ g ≤ 9223372036854775807) (s : ByteArray) (tv : Value) (xs : List ByteArray) (ht : TxtAt W tv xs) (hl : xs.length ≤ 8796093022208) (hsz : ∀ x ∈ xs, x.size ≤ 140737488355328) :
    Calls Tryz.prog 36 #[.pointer (some ⟨wb, 0, none⟩), opV 2 g n m s tv, .int .i64 3] w (StepPost W wb V L us) := by
  have hb : Below w.heap.size w (w.alloc (opO 2 g n m s tv)).drew := ((Below.refl _ _).alloc (Nat.le_refl _) _).drew
  obtain ⟨i, p, pg, pc, hil, hi, rfl, hc0, hci, hpk⟩ := step_pick (hS.later hb) hn0 hn g hg
  have HW : Hid (Calls Tryz.prog 76 #[.pointer (some ⟨p.pb, 0, none⟩), tv] (w.alloc (opO 2 g n m s tv)).drew (StepPost W wb V L us)) := lawWrite_any (hS.later hb) hV hi tv xs ht hl hsz
  have HPK : Hid (∀ w1, Calls Tryz.prog 75 #[.int .i64 g, .int .i64 L.length] w1 fun e w' => e = .returned (.int .i64 i) ∧ w' = w1) := hpk
  have htv : ∃ tx tn tc, tv = .slice tx tn tc := by
    rcases ht with ⟨rfl, -⟩ | ⟨a, rfl, -⟩ | ⟨b, off, cap, rfl, -⟩
    · exact ⟨_, _, _, rfl⟩
    · exact ⟨_, _, _, rfl⟩
    · exact ⟨_, _, _, rfl⟩
  obtain ⟨tx, tn, tc, rfl⟩ := htv
  clear hS ht hl hsz hb hV hi hpk
  have hc0' : (w.alloc (opO 2 g n m s (.slice tx tn tc))).cell? ⟨wb, 0, none⟩ = _ := hc0
  have hci' : (w.alloc (opO 2 g n m s (.slice tx tn tc))).cell? ⟨pg, i, none⟩ = _ := hci
  unfold opO at hc0 hci hc0' hci'
  unfold opV
  go_enter Tryz.func36, Tryz.ntmps36
  go_wp2
  go_region_with (go_at_call 75; refine (HPK.out _).mono ?_; rintro e w' ⟨rfl, rfl⟩)
  all_goals go_wp2_with (go_at_call 76; refine HW.out.mono ?_; rintro e w' ⟨rfl, hp⟩; have HP : Hid (StepPost W wb V L us (.returned (.bool true)) w') := ⟨rfl, hp⟩; clear hp)
  all_goals (go_ret; exact HP.out)

end Go.Proofs.YtalmoiogbdahcaaGreat
