import Derived.Test.YtalmoiogbdahcaaGreatYWrdG
import Derived.Test.YtalmoiogbdahcaaGreatYNumA
import Derived.Test.YtalmoiogbdahcaaGreatYKeyA
namespace Go.Proofs.YtalmoiogbdahcaaGreat
set_option maxRecDepth 100000
set_option maxHeartbeats 8000000
open Go.RowKit
def NumPost {α : Type} [DecidableEq α] (enc : α -> Value) (cl : α -> List Value) (Gd : Value -> Prop) (tN tE : TypeId) (size : Nat) (w : World) (lo nb mb : Nat) (sv : Value) (vs : List α) (v : α) (e : Ending) (w' : World) : Prop :=
 e = .returned (.int .i64 ((addN vs v).idxOf v : Nat)) /\ ∃ sv', NumAt enc cl Gd tN tE size w' lo nb mb sv' (addN vs v) /\ Frm (numX nb mb sv) w w' /\ ∀ k, sv'.ownBlock = some k -> sv.ownBlock = some k \/ w.heap.size <= k
theorem num_old {α : Type} [DecidableEq α] {enc : α -> Value} {cl : α -> List Value} {Gd : Value -> Prop} {tN tE : TypeId} {size : Nat} {w w' : World} {lo nb mb : Nat} {sv : Value} {vs : List α} {v : α} (h : NumAt enc cl Gd tN tE size w lo nb mb sv vs) (hv : v ∈ vs) (hb : Below w.heap.size w w') : NumPost enc cl Gd tN tE size w lo nb mb sv vs v (.returned (.int .i64 (vs.idxOf v : Nat))) w' := by
 have e : addN vs v = vs := by unfold addN; rw [if_pos hv]
 unfold NumPost
 rw [e]
 exact ⟨rfl, sv, h.keep (X := fun _ => False) (Frm.of_below hb) (fun _ _ e => e), Frm.of_below hb, fun k hk => Or.inl hk⟩
theorem num_new {α : Type} [DecidableEq α] {enc : α -> Value} {cl : α -> List Value} {Gd : Value -> Prop} {kt tM tN tS tE : TypeId} {z : Value} {size bytes : Nat} (K : KeyOk Tryz.prog kt Gd) (ht : Tryz.prog.underlying tM = some (.map kt 3))
  (hu : Tryz.prog.underlying tS = some (.slice tE)) (hi : (Tryz.prog.info? tE).map (fun i => (i.zero, i.size, i.bytes)) = some (some z, size, bytes)) (hz : z.cells.size = size) (hs : 0 < size) (hby : bytes <= 100) (hne : tN ≠ tE)
  {W w : World} {lo nb mb : Nat} {sv : Value} {vs : List α} {v : α} (h : NumAt enc cl Gd tN tE size W lo nb mb sv vs) (hb : Below W.heap.size W w) (hg : Gd (enc v)) (hinj : ∀ a ∈ vs, enc a = enc v -> a = v) (hv : v ∉ vs) (hc : (cl v).length = size) (h1 : ∀ u ∈ cl v, u.oneCell' = true) (hlo : lo <= W.heap.size) (hn : vs.length <= 100000000) :
  ∃ w1, (Instr.mapUpdate tM (.map (some mb)) (enc v) (.int .i64 (vs.length : Nat))).run Tryz.prog w = .ok () w1 /\ w.grownBy w1 (some mb) /\ w1.heap.size = w.heap.size /\ nb ≠ mb /\ ∀ w2 : World, Below w1.heap.size w1 w2 -> w2.cell? ⟨nb, 1, none⟩ = some sv /\
   ∃ v' w3, (Builtin.append_ #[tS, tS] tS #[sv, .slice (some ⟨w2.heap.size, 0, none⟩) 1 1]).run Tryz.prog (w2.alloc (.cells (cl v).toArray tE)) = .ok v' w3 /\ (∃ x c, v' = .slice x (vs.length + 1) c) /\ w2.grownBy w3 sv.ownBlock /\ w3.cell? ⟨nb, 1, none⟩ = some sv /\ w3.frozen? ⟨nb, 1, none⟩ = false /\
    ∀ w4, Below w3.heap.size w3 w4 -> NumPost enc cl Gd tN tE size W lo nb mb sv vs v (.returned (.int .i64 (vs.length : Nat))) (w4.setCell ⟨nb, 1, none⟩ v') := by
 have h0 := h.keep (X := fun _ => False) (Frm.of_below hb) (fun _ _ e => e)
 have hgn : getM (numM enc vs) (enc v) = none := by rw [numM_get hinj, if_neg hv]
 obtain ⟨w1, r1, m1, g1, s1⟩ := map_put_new K ht h0.map hg hgn (.int .i64 (vs.length : Nat))
 have hnm : nb ≠ mb := by
  intro e
  obtain ⟨es, c, q, -⟩ := h0.map
  have := h0.blk
  rw [e, q] at this; injection this with this; cases this
 have hrm : ∀ k, sv.ownBlock = some k -> k ≠ mb := by
  intro k hk e
  obtain ⟨-, -, cur, q⟩ := owns_lt h0.row k hk
  obtain ⟨es, c, q2, -⟩ := h0.map
  rw [e, q2] at q; injection q with q; cases q
 have hrn : ∀ k, sv.ownBlock = some k -> k ≠ nb := by
  intro k hk e
  obtain ⟨-, -, cur, q⟩ := owns_lt h0.row k hk
  rw [e, h0.blk] at q; injection q with q; injection q with _ q; exact hne q
 have hw : W.heap.size <= w.heap.size := hb.size
 have hmm : numM enc (vs ++ [v]) = numM enc vs ++ [(enc v, .int .i64 (vs.length : Nat))] := by
  have := numF_append enc vs 0 v
  rw [Nat.zero_add] at this
  exact this
 refine ⟨w1, r1, g1, s1, hnm, fun w2 hb2 => ?_⟩
 have b1 : w1.heap[nb]? = some (.cells [.map (some mb), sv].toArray tN (0, 0)) := by
  rw [g1.block nb (row_lt h0.blk) (fun e => hnm (by injection e))]; exact h0.blk
 have b2 : w2.heap[nb]? = some (.cells [.map (some mb), sv].toArray tN (0, 0)) := by rw [hb2.block nb (row_lt b1)]; exact b1
 have o1 : w1.ownsRow lo tE size sv vs.length (vs.flatMap cl) := owns_to h0.row fun g hgg => g1.block g (owns_lt h0.row g hgg).1 (fun e => hrm g hgg (by injection e))
 have o2 := owns_below o1 hb2
 have m2 : MapAt w2 Gd mb (numM enc vs ++ [(enc v, .int .i64 (vs.length : Nat))]) := m1.move (hb2.block mb m1.lt)
 obtain ⟨v', w3, r3, o3, g3, n3⟩ := app_at hu hi hz hs hby w2 lo sv vs.length (vs.flatMap cl) (cl v) hc h1 o2 (by have := hb2.size; omega) hn
 have b3 : w3.heap[nb]? = some (.cells [.map (some mb), sv].toArray tN (0, 0)) := by rw [g3.block nb (row_lt b2) (fun e => hrn nb e.symm rfl)]; exact b2
 have m3 : MapAt w3 Gd mb (numM enc vs ++ [(enc v, .int .i64 (vs.length : Nat))]) := m2.move (g3.block mb m2.lt (fun e => hrm mb e.symm rfl))
 refine ⟨row_cell b2 (j := 1) rfl, v', w3, r3, owns_form o3, g3, row_cell b3 (j := 1) rfl, row_frozen b3 1, fun w4 hb4 => ?_⟩
 have b4 : w4.heap[nb]? = some (.cells [.map (some mb), sv].toArray tN (0, 0)) := by rw [hb4.block nb (row_lt b3)]; exact b3
 have m4 : MapAt w4 Gd mb (numM enc vs ++ [(enc v, .int .i64 (vs.length : Nat))]) := m3.move (hb4.block mb m3.lt)
 have o4 := owns_below o3 hb4
 have hs4 : W.heap.size <= w4.heap.size := by have := hb2.size; have := g3.size; have := hb4.size; omega
 have ea : addN vs v = vs ++ [v] := by unfold addN; rw [if_neg hv]
 refine ⟨by rw [addN_new hv], v', ⟨row_set b4 1 v', ?_, ?_, addN_nodup h.nd v, h.lob, h.lom⟩, ?_, ?_⟩
 ·rw [ea, hmm]
  exact m4.move (Below.heap_setCell _ _ _ _ (Ne.symm hnm))
 ·rw [ea, List.length_append, List.flatMap_append, List.flatMap_cons, List.flatMap_nil, List.append_nil]
  refine owns_to o4 fun g hgg => Below.heap_setCell _ _ _ _ ?_
  rcases n3 g hgg with e | e
  ·exact hrn g e
  ·have := row_lt b2; show g ≠ nb; omega
 ·refine ⟨?_, ?_, ?_, ?_, ?_⟩
  ·show w4.os = _; rw [hb4.os, g3.os, hb2.os, g1.os, hb.os]
  ·show w4.tape = _; rw [hb4.tape, g3.tape, hb2.tape, g1.tape, hb.tape]
  ·show w4.output = _; rw [hb4.output, g3.output, hb2.output, g1.output, hb.output]
  ·simp [World.setCell]; exact hs4
  ·intro k hk hx
   have k1 : ¬ k = nb := fun e => hx (Or.inl e)
   have k2 : ¬ k = mb := fun e => hx (Or.inr (Or.inl e))
   have k3 : ¬ sv.ownBlock = some k := fun e => hx (Or.inr (Or.inr e))
   rw [Below.heap_setCell _ _ _ _ k1, hb4.block k (by have := hb2.size; have := g3.size; omega), g3.block k (by have := hb2.size; omega) (fun e => k3 e.symm), hb2.block k (by omega), g1.block k (by omega) (fun e => k2 (by injection e)), hb.block k hk]
 ·intro k hk
  rcases n3 k hk with e | e
  ·exact Or.inl e
  ·right; have := hb2.size; omega
theorem Tryz.infoCx : (Tryz.prog.info? 136).map (fun i => (i.zero, i.size, i.bytes)) = some (some (.complex .f64 0 0), 1, 16) := by kernel_rfl
abbrev NumCx {α : Type} (enc : α -> Value) (w : World) (lo nb mb : Nat) (sv : Value) (vs : List α) : Prop := NumAt enc (fun a => [enc a]) CxG 172 136 1 w lo nb mb sv vs
abbrev NumCxPost {α : Type} [DecidableEq α] (enc : α -> Value) (w : World) (lo nb mb : Nat) (sv : Value) (vs : List α) (v : α) (e : Ending) (w' : World) : Prop := NumPost enc (fun a => [enc a]) CxG 172 136 1 w lo nb mb sv vs v e w'
theorem zeroInt (w : World) : (zeroValue 3).run Tryz.prog w = .ok (.int .i64 0) w := Tryz.zeroValue3 w
theorem numCx_any {α : Type} [DecidableEq α] (enc : α -> Value) (v : α) (p q : Nat) (hv : enc v = .complex .f64 p q) {w : World} {lo nb mb : Nat} {sv : Value} {vs : List α} (h : NumCx enc w lo nb mb sv vs) (hg : CxG (enc v)) (hinj : ∀ a ∈ vs, enc a = enc v -> a = v) (hlo : lo <= w.heap.size) (hn : vs.length <= 100000000) :
  Calls Tryz.prog 135 #[.pointer (some ⟨nb, 0, none⟩), .complex .f64 p q] w (NumCxPost enc w lo nb mb sv vs v) := by
 have c0 := row_cell h.blk (j := 0) rfl
 have c1 := row_cell h.blk (j := 1) rfl
 have hlk := (map_look cx_ok Tryz.underlying169 h.map hg (zeroInt w)).1
 rw [numM_get hinj, hv] at hlk
 by_cases hm : v ∈ vs
 ·rw [if_pos hm] at hlk
  have HP : Hid (NumCxPost enc w lo nb mb sv vs v (.returned (.int .i64 (vs.idxOf v : Nat))) w) := num_old h hm (Below.refl _ _)
  generalize NumCxPost enc w lo nb mb sv vs v = post at *
  generalize vs.idxOf v = ix at *
  dsimp only [Option.getD_some, Option.isSome_some] at hlk
  clear h hinj hg hv c1
  go_enter Tryz.func135, Tryz.ntmps135
  go_wp2
  exact HP.out
 ·rw [if_neg hm] at hlk
  dsimp only [Option.getD_none, Option.isSome_none] at hlk
  obtain ⟨x, c, rfl⟩ := owns_form h.row
  obtain ⟨w1, hup, g1, s1, hnm, hrest⟩ := num_new cx_ok Tryz.underlying169 Tryz.underlying170 Tryz.infoCx rfl (by decide) (by decide) (by decide) h (Below.refl _ _) hg hinj hm rfl (by intro u hu; simp at hu; rw [hu, hv]; rfl) hlo hn
  obtain ⟨d1, v', w3, hr, ⟨x', c', rfl⟩, g3, d3, f3, hpost⟩ := hrest w1 (Below.refl _ _)
  have HP : Hid (NumCxPost enc w lo nb mb (.slice x vs.length c) vs v (.returned (.int .i64 (vs.length : Nat))) (w3.setCell ⟨nb, 1, none⟩ (.slice x' (vs.length + 1) c'))) := hpost w3 (Below.refl _ _)
  rw [hv] at hup hr
  generalize NumCxPost enc w lo nb mb (.slice x vs.length c) vs v = post at *
  clear h hinj hg hv hpost hrest g1 s1 g3
  generalize vs.length = n at *
  go_enter Tryz.func135, Tryz.ntmps135
  go_wp2_with (at_builtin; refine wpList_app_run rfl (.tmp 33) (.tmp 35) 170 rfl _ _ _ rfl rfl hr ?_)
  exact HP.out
abbrev NumSt {α : Type} (enc : α -> Value) (w : World) (lo nb mb : Nat) (sv : Value) (vs : List α) : Prop := NumAt enc (fun a => [enc a]) StrG 223 9 1 w lo nb mb sv vs
abbrev NumStPost {α : Type} [DecidableEq α] (enc : α -> Value) (w : World) (lo nb mb : Nat) (sv : Value) (vs : List α) (v : α) (e : Ending) (w' : World) : Prop := NumPost enc (fun a => [enc a]) StrG 223 9 1 w lo nb mb sv vs v e w'
theorem numSt_any {α : Type} [DecidableEq α] (enc : α -> Value) (v : α) (p : ByteArray) (hv : enc v = .string p) {w : World} {lo nb mb : Nat} {sv : Value} {vs : List α} (h : NumSt enc w lo nb mb sv vs) (hg : StrG (enc v)) (hinj : ∀ a ∈ vs, enc a = enc v -> a = v) (hlo : lo <= w.heap.size) (hn : vs.length <= 100000000) :
  Calls Tryz.prog 138 #[.pointer (some ⟨nb, 0, none⟩), .string p] w (NumStPost enc w lo nb mb sv vs v) := by
 have c0 := row_cell h.blk (j := 0) rfl
 have c1 := row_cell h.blk (j := 1) rfl
 have hlk := (map_look str_ok Tryz.underlying221 h.map hg (zeroInt w)).1
 rw [numM_get hinj, hv] at hlk
 by_cases hm : v ∈ vs
 ·rw [if_pos hm] at hlk
  have HP : Hid (NumStPost enc w lo nb mb sv vs v (.returned (.int .i64 (vs.idxOf v : Nat))) w) := num_old h hm (Below.refl _ _)
  generalize NumStPost enc w lo nb mb sv vs v = post at *
  generalize vs.idxOf v = ix at *
  dsimp only [Option.getD_some, Option.isSome_some] at hlk
  clear h hinj hg hv c1
  go_enter Tryz.func138, Tryz.ntmps138
  go_wp2
  exact HP.out
 ·rw [if_neg hm] at hlk
  dsimp only [Option.getD_none, Option.isSome_none] at hlk
  obtain ⟨x, c, rfl⟩ := owns_form h.row
  obtain ⟨w1, hup, g1, s1, hnm, hrest⟩ := num_new str_ok Tryz.underlying221 Tryz.underlying28 Tryz.infoStr rfl (by decide) (by decide) (by decide) h (Below.refl _ _) hg hinj hm rfl (by intro u hu; simp at hu; rw [hu, hv]; rfl) hlo hn
  obtain ⟨d1, v', w3, hr, ⟨x', c', rfl⟩, g3, d3, f3, hpost⟩ := hrest w1 (Below.refl _ _)
  have HP : Hid (NumStPost enc w lo nb mb (.slice x vs.length c) vs v (.returned (.int .i64 (vs.length : Nat))) (w3.setCell ⟨nb, 1, none⟩ (.slice x' (vs.length + 1) c'))) := hpost w3 (Below.refl _ _)
  rw [hv] at hup hr
  generalize NumStPost enc w lo nb mb (.slice x vs.length c) vs v = post at *
  clear h hinj hg hv hpost hrest g1 s1 g3
  generalize vs.length = n at *
  go_enter Tryz.func138, Tryz.ntmps138
  go_wp2_with (at_builtin; refine wpList_app_run rfl (.tmp 33) (.tmp 35) 28 rfl _ _ _ rfl rfl hr ?_)
  exact HP.out
theorem Tryz.infoNode : (Tryz.prog.info? 75).map (fun i => (i.zero, i.size, i.bytes)) = some (some (.agg #[.string { data := #[] }, .string { data := #[] }, .string { data := #[] }]), 3, 48) := by kernel_rfl
abbrev NumNd (w : World) (lo nb mb : Nat) (sv : Value) (vs : List Nod) : Prop := NumAt ndV ndC NodeG 176 75 3 w lo nb mb sv vs
abbrev NumNdPost (w : World) (lo nb mb : Nat) (sv : Value) (vs : List Nod) (v : Nod) (e : Ending) (w' : World) : Prop := NumPost ndV ndC NodeG 176 75 3 w lo nb mb sv vs v e w'
theorem numNd_any (v : Nod) {w : World} {lo nb mb : Nat} {sv : Value} {vs : List Nod} (h : NumNd w lo nb mb sv vs) (hg : okNd v) (hlo : lo <= w.heap.size) (hn : vs.length <= 100000000) :
  Calls Tryz.prog 136 #[.pointer (some ⟨nb, 0, none⟩), .agg #[.string v.k, .string v.n, .string v.r]] w (NumNdPost w lo nb mb sv vs v) := by
 have hinj : ∀ a ∈ vs, ndV a = ndV v -> a = v := fun a _ e => ndV_inj e
 have hbl : nb < w.heap.size := row_lt h.blk
 have c0 := row_cell h.blk (j := 0) rfl
 have c0a := fun o => row_cell (alloc_row h.blk o) (j := 0) rfl
 have c1a := fun o => row_cell (alloc_row h.blk o) (j := 1) rfl
 have HLK : ∀ w2, Below w.heap.size w w2 -> (Instr.lookup 173 (.map (some mb)) (ndV v) true).run Tryz.prog w2 = .ok (.tuple #[(getM (numM ndV vs) (ndV v)).getD (.int .i64 0), .bool (getM (numM ndV vs) (ndV v)).isSome]) w2 := fun w2 hb2 =>
  (map_look nodK_ok Tryz.underlying173 (h.map.move (hb2.block _ h.map.lt)) ⟨v, rfl, hg⟩ (zeroInt w2)).1
 rw [numM_get hinj] at HLK
 by_cases hm : v ∈ vs
 ·rw [if_pos hm] at HLK
  have hlk := HLK (((w.alloc (.cells #[.string v.k, .string v.n, .string v.r] 75))).drew) (by repeat (first | exact Below.refl _ _ | refine Below.setCell ?_ (by first | exact Nat.le_refl _ | (simp; done) | (simp; omega)) _ | refine below_drewN ?_ _ | refine Below.drew ?_ | refine Below.alloc ?_ (by first | exact Nat.le_refl _ | (simp; done) | (simp; omega)) _))
  have HP : Hid (∀ w', Below w.heap.size w w' -> NumNdPost w lo nb mb sv vs v (.returned (.int .i64 (vs.idxOf v : Nat))) w') := fun w' hb => num_old h hm hb
  generalize NumNdPost w lo nb mb sv vs v = post at *
  generalize vs.idxOf v = ix at *
  unfold ndV at hlk
  dsimp only [Option.getD_some, Option.isSome_some] at hlk
  clear h hinj HLK
  go_enter Tryz.func136, Tryz.ntmps136
  go_wp2
  go_region
  all_goals go_wp2
  all_goals exact HP.out _ (by repeat (first | exact Below.refl _ _ | refine Below.setCell ?_ (by first | exact Nat.le_refl _ | (simp; done) | (simp; omega)) _ | refine below_drewN ?_ _ | refine Below.drew ?_ | refine Below.alloc ?_ (by first | exact Nat.le_refl _ | (simp; done) | (simp; omega)) _))
 ·rw [if_neg hm] at HLK
  have hlk := HLK (((w.alloc (.cells #[.string v.k, .string v.n, .string v.r] 75))).drew) (by repeat (first | exact Below.refl _ _ | refine Below.setCell ?_ (by first | exact Nat.le_refl _ | (simp; done) | (simp; omega)) _ | refine below_drewN ?_ _ | refine Below.drew ?_ | refine Below.alloc ?_ (by first | exact Nat.le_refl _ | (simp; done) | (simp; omega)) _))
  unfold ndV at hlk
  dsimp only [Option.getD_none, Option.isSome_none] at hlk
  obtain ⟨x, c, rfl⟩ := owns_form h.row
  obtain ⟨w1, hup, g1, s1, hnm, hrest⟩ := num_new nodK_ok Tryz.underlying173 Tryz.underlying174 Tryz.infoNode rfl (by decide) (by decide) (by decide) h (w := (w.alloc (.cells #[.string v.k, .string v.n, .string v.r] 75)).drew.drew) (by repeat (first | exact Below.refl _ _ | refine Below.setCell ?_ (by first | exact Nat.le_refl _ | (simp; done) | (simp; omega)) _ | refine below_drewN ?_ _ | refine Below.drew ?_ | refine Below.alloc ?_ (by first | exact Nat.le_refl _ | (simp; done) | (simp; omega)) _)) ⟨v, rfl, hg⟩ hinj hm rfl (by intro u hu; simp [ndC] at hu; rcases hu with rfl | rfl | rfl <;> rfl) hlo hn
  obtain ⟨d1, v', w3, hr, ⟨x', c', rfl⟩, g3, d3, f3, hpost⟩ := hrest w1.drew (by repeat (first | exact Below.refl _ _ | refine Below.setCell ?_ (by first | exact Nat.le_refl _ | (simp; done) | (simp; omega)) _ | refine below_drewN ?_ _ | refine Below.drew ?_ | refine Below.alloc ?_ (by first | exact Nat.le_refl _ | (simp; done) | (simp; omega)) _))
  have d1a := fun o => (World.cell?_of_block (w := w1) (w' := w1.alloc o) (a := ⟨nb, 1, none⟩) (Below.heap_alloc w1 o nb (cell_lt (w := w1) d1))).trans d1
  have HP : Hid (NumNdPost w lo nb mb (.slice x vs.length c) vs v (.returned (.int .i64 (vs.length : Nat))) (w3.setCell ⟨nb, 1, none⟩ (.slice x' (vs.length + 1) c'))) := hpost w3 (Below.refl _ _)
  unfold ndV at hup
  unfold ndC at hr
  have hbx := fun o => (kcell g1).1 w.heap.size o (by show _ < (w.heap.push _).size; simp) (by have := h.map.lt; omega)
  generalize NumNdPost w lo nb mb (.slice x vs.length c) vs v = post at *
  clear h hinj hpost hrest g1 s1 g3 HLK
  generalize vs.length = n at *
  go_enter Tryz.func136, Tryz.ntmps136
  go_wp2
  go_region
  all_goals go_wp2
  all_goals go_region
  all_goals go_wp2
  all_goals go_region_law (refine step_app_run rfl (.tmp 33) (.tmp 35) 174 rfl _ _ _ rfl rfl hr ?_)
  all_goals go_wp2
  all_goals exact HP.out
def CntPost {α : Type} (enc : α -> Value) (cl : α -> List Value) (Gd : Value -> Prop) (tN tE : TypeId) (size : Nat) (w : World) (vs : List α) (e : Ending) (w' : World) : Prop :=
 ∃ nb mb sv, e = .returned (.pointer (some ⟨nb, 0, none⟩)) /\ NumAt enc cl Gd tN tE size w' w.heap.size nb mb sv vs /\ Below w.heap.size w w'
theorem cnt_new {α : Type} (enc : α -> Value) (cl : α -> List Value) (Gd : Value -> Prop) (tN tE : TypeId) (size : Nat) (w : World) :
  NumAt enc cl Gd tN tE size ((w.alloc (.map #[] 0)).alloc (.cells #[.map (some w.heap.size), .slice none 0 0] tN)) w.heap.size (w.heap.size + 1) w.heap.size (.slice none 0 0) [] := by
 have e : (w.alloc (.map #[] 0)).heap.size = w.heap.size + 1 := by show (w.heap.push _).size = _; simp
 have h := alloc_new (w.alloc (.map #[] 0)) [.map (some w.heap.size), .slice none 0 0] tN
 rw [e] at h
 exact ⟨h, (MapAt.new w Gd).move (Below.heap_alloc _ _ _ (by rw [e]; omega)), World.ownsRow_nil _ _ _ _, List.nodup_nil, by omega, Nat.le_refl _⟩
abbrev cntW (w : World) (tN : TypeId) : World := (w.alloc (.map #[] 0)).alloc (.cells #[.map (some w.heap.size), .slice none 0 0] tN)
theorem cntCx_nil {α : Type} (enc : α -> Value) (w : World) : Calls Tryz.prog 85 #[.slice none 0 0] w (CntPost enc (fun a => [enc a]) CxG 172 136 1 w []) := by
 have hmm := fun w1 => run_makeMap (P := Tryz.prog) 169 w1
 have HP : Hid (CntPost enc (fun a => [enc a]) CxG 172 136 1 w [] (.returned (.pointer (some ⟨w.heap.size + 1, 0, none⟩))) (cntW w 172)) :=
  ⟨_, _, _, rfl, cnt_new enc _ CxG _ _ 1 w, by repeat (first | exact Below.refl _ _ | refine Below.setCell ?_ (by first | exact Nat.le_refl _ | (simp; done) | (simp; omega)) _ | refine below_drewN ?_ _ | refine Below.drew ?_ | refine Below.alloc ?_ (by first | exact Nat.le_refl _ | (simp; done) | (simp; omega)) _)⟩
 generalize CntPost enc (fun a => [enc a]) CxG 172 136 1 w [] = post at *
 go_enter Tryz.func85, Tryz.ntmps85
 go_wp2
 refine wp_loop_rounds 1 ?_
 rw [rounds_succ]
 go_wp2
 exact HP.out
theorem cntNd_nil (w : World) : Calls Tryz.prog 132 #[.slice none 0 0] w (CntPost ndV ndC NodeG 176 75 3 w []) := by
 have hmm := fun w1 => run_makeMap (P := Tryz.prog) 173 w1
 have HP : Hid (CntPost ndV ndC NodeG 176 75 3 w [] (.returned (.pointer (some ⟨w.heap.size + 1, 0, none⟩))) (cntW w 176)) :=
  ⟨_, _, _, rfl, cnt_new ndV _ NodeG _ _ 3 w, by repeat (first | exact Below.refl _ _ | refine Below.setCell ?_ (by first | exact Nat.le_refl _ | (simp; done) | (simp; omega)) _ | refine below_drewN ?_ _ | refine Below.drew ?_ | refine Below.alloc ?_ (by first | exact Nat.le_refl _ | (simp; done) | (simp; omega)) _)⟩
 generalize CntPost ndV ndC NodeG 176 75 3 w [] = post at *
 go_enter Tryz.func132, Tryz.ntmps132
 go_wp2
 refine wp_loop_rounds 1 ?_
 rw [rounds_succ]
 go_wp2
 exact HP.out
theorem cntCx_one {α : Type} [DecidableEq α] (enc : α -> Value) (v : α) (p q : Nat) (hv : enc v = .complex .f64 p q) (hg : CxG (enc v)) (b c : Nat) (w : World) (hc : w.cell? ⟨b, 0, none⟩ = some (.complex .f64 p q)) :
  Calls Tryz.prog 85 #[.slice (some ⟨b, 0, none⟩) 1 c] w (CntPost enc (fun a => [enc a]) CxG 172 136 1 w [v]) := by
 have hmm := fun w1 => run_makeMap (P := Tryz.prog) 169 w1
 have hlt := cell_lt hc
 have HN : Hid (Calls Tryz.prog 135 #[.pointer (some ⟨w.heap.size + 1, 0, none⟩), .complex .f64 p q] (cntW w 172) (NumCxPost enc (cntW w 172) w.heap.size (w.heap.size + 1) w.heap.size (.slice none 0 0) [] v)) :=
  numCx_any enc v p q hv (cnt_new enc _ CxG _ _ 1 w) hg (fun a ha => by cases ha) (by simp <;> omega) (by simp)
 have HP : Hid (∀ e w', NumCxPost enc (cntW w 172) w.heap.size (w.heap.size + 1) w.heap.size (.slice none 0 0) [] v e w' -> CntPost enc (fun a => [enc a]) CxG 172 136 1 w [v] (.returned (.pointer (some ⟨w.heap.size + 1, 0, none⟩))) w') := by
  rintro e w' ⟨-, sv, h1, h2, -⟩
  exact ⟨_, _, sv, rfl, h1, Frm.below (a := w) (by repeat (first | exact Below.refl _ _ | refine Below.setCell ?_ (by first | exact Nat.le_refl _ | (simp; done) | (simp; omega)) _ | refine below_drewN ?_ _ | refine Below.drew ?_ | refine Below.alloc ?_ (by first | exact Nat.le_refl _ | (simp; done) | (simp; omega)) _)) h2 (by simp <;> omega) (fun k _ hk => by rcases hk with rfl | rfl | hk; exact Nat.le_succ _; exact Nat.le_refl _; cases hk)⟩
 have hca : (cntW w 172).cell? ⟨b, 0, none⟩ = some (.complex .f64 p q) := by
  rw [← hc]; exact Below.cell (B := w.heap.size) (by repeat (first | exact Below.refl _ _ | refine Below.setCell ?_ (by first | exact Nat.le_refl _ | (simp; done) | (simp; omega)) _ | refine below_drewN ?_ _ | refine Below.drew ?_ | refine Below.alloc ?_ (by first | exact Nat.le_refl _ | (simp; done) | (simp; omega)) _)) hlt
 generalize CntPost enc (fun a => [enc a]) CxG 172 136 1 w [v] = post at *
 go_enter Tryz.func85, Tryz.ntmps85
 go_wp2
 refine wp_loop_rounds 2 ?_
 rw [rounds_succ]
 go_wp2_with (go_at_call 135; refine HN.out.mono ?_; rintro e w1 hp; have hp2 := HP.out e w1 hp; have hre := hp.1; clear hp; subst hre; generalize List.idxOf v (addN [] v) = ix)
 rw [rounds_succ]
 go_wp2
 exact hp2
theorem cntSt_one (v : ByteArray) (hg : v.size <= maxLen) (b c : Nat) (w : World) (hc : w.cell? ⟨b, 0, none⟩ = some (.string v)) :
  Calls Tryz.prog 133 #[.slice (some ⟨b, 0, none⟩) 1 c] w (CntPost Value.string (fun a => [Value.string a]) StrG 223 9 1 w [v]) := by
 have hmm := fun w1 => run_makeMap (P := Tryz.prog) 221 w1
 have hlt := cell_lt hc
 have HN : Hid (Calls Tryz.prog 138 #[.pointer (some ⟨w.heap.size + 1, 0, none⟩), .string v] (cntW w 223) (NumStPost Value.string (cntW w 223) w.heap.size (w.heap.size + 1) w.heap.size (.slice none 0 0) [] v)) :=
  numSt_any Value.string v v rfl (cnt_new Value.string _ StrG _ _ 1 w) ⟨v, rfl, hg⟩ (fun a ha => by cases ha) (by simp <;> omega) (by simp)
 have HP : Hid (∀ e w', NumStPost Value.string (cntW w 223) w.heap.size (w.heap.size + 1) w.heap.size (.slice none 0 0) [] v e w' -> CntPost Value.string (fun a => [Value.string a]) StrG 223 9 1 w [v] (.returned (.pointer (some ⟨w.heap.size + 1, 0, none⟩))) w') := by
  rintro e w' ⟨-, sv, h1, h2, -⟩
  exact ⟨_, _, sv, rfl, h1, Frm.below (a := w) (by repeat (first | exact Below.refl _ _ | refine Below.setCell ?_ (by first | exact Nat.le_refl _ | (simp; done) | (simp; omega)) _ | refine below_drewN ?_ _ | refine Below.drew ?_ | refine Below.alloc ?_ (by first | exact Nat.le_refl _ | (simp; done) | (simp; omega)) _)) h2 (by simp <;> omega) (fun k _ hk => by rcases hk with rfl | rfl | hk; exact Nat.le_succ _; exact Nat.le_refl _; cases hk)⟩
 have hca : (cntW w 223).cell? ⟨b, 0, none⟩ = some (.string v) := by
  rw [← hc]; exact Below.cell (B := w.heap.size) (by repeat (first | exact Below.refl _ _ | refine Below.setCell ?_ (by first | exact Nat.le_refl _ | (simp; done) | (simp; omega)) _ | refine below_drewN ?_ _ | refine Below.drew ?_ | refine Below.alloc ?_ (by first | exact Nat.le_refl _ | (simp; done) | (simp; omega)) _)) hlt
 generalize CntPost Value.string (fun a => [Value.string a]) StrG 223 9 1 w [v] = post at *
 go_enter Tryz.func133, Tryz.ntmps133
 go_wp2
 refine wp_loop_rounds 2 ?_
 rw [rounds_succ]
 go_wp2_with (go_at_call 138; refine HN.out.mono ?_; rintro e w1 hp; have hp2 := HP.out e w1 hp; have hre := hp.1; clear hp; subst hre; generalize List.idxOf v (addN [] v) = ix)
 rw [rounds_succ]
 go_wp2
 exact hp2
end Go.Proofs.YtalmoiogbdahcaaGreat
