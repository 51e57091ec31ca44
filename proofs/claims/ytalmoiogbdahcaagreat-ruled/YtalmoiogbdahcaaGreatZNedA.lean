import Derived.Test.YtalmoiogbdahcaaGreatZSetA
import Derived.Test.YtalmoiogbdahcaaGreatYTieP
import Derived.Test.YtalmoiogbdahcaaGreatYRefG
import Derived.Test.YtalmoiogbdahcaaGreatYAskA
import Derived.Test.YtalmoiogbdahcaaGreatYGhE
import Derived.Test.YtalmoiogbdahcaaGreatYSrtB
import Derived.Maps.AppendAt
namespace Go.Proofs.YtalmoiogbdahcaaGreat
set_option maxRecDepth 100000
set_option maxHeartbeats 8000000
open Go.RowKit Go.Shelf
structure DocOk (xs now : List ByteArray) : Prop where
 hv : ∀ y ∈ xs, readS y = true
 few : xs.length <= 12
 ht : ∀ s ∈ now, tupOk s = true
 nl : now.length <= 50
theorem toldX_leaf {ts : List (Nod × Nod)} {P : Nod -> Prop} {x : Nod} {is : Int} {a b : ByteArray} {l : List WayT} (h : is ≠ 3) (h4 : is ≠ 4) : toldW ts P x (.mk is a b l) ↔ ∃ y ∈ namedW ts x (.mk is a b l), P y := by
 rw [toldW, if_neg h, if_neg h4]
theorem sorted_nodup {l : List ByteArray} (h : Sorted l) : l.Nodup := List.Pairwise.imp (fun h e => by subst e; rw [ltB_irrefl] at h; cases h) h
theorem mem_with {l : List ByteArray} (hs : Sorted l) (x s : ByteArray) : s ∈ withL l x true ↔ s ∈ l \/ s = x := by
 obtain ⟨i, hp⟩ := place_ex hs x
 rw [with_place hs hp]
 split
 ·rename_i e
  rw [if_pos rfl]
  constructor
  ·exact Or.inl
  ·rintro (h | h)
   ·exact h
   ·rw [h]; exact List.mem_of_getElem? e
 ·rw [if_pos rfl]
  unfold insL
  constructor
  ·intro h
   rcases List.mem_append.1 h with h | h
   ·exact Or.inl (List.mem_of_mem_take h)
   ·rcases List.mem_cons.1 h with h | h
    ·exact Or.inr h
    ·exact Or.inl (List.mem_of_mem_drop h)
  ·rintro (h | h)
   ·rw [← List.take_append_drop i l] at h
    rcases List.mem_append.1 h with h | h
    ·exact List.mem_append_left _ h
    ·exact List.mem_append_right _ (List.mem_cons_of_mem _ h)
   ·rw [h]; exact List.mem_append_right _ (List.mem_cons_self ..)
theorem app_strF (w : World) (base : Nat) (v : Value) (n : Nat) (xs : List ByteArray) (x : ByteArray) (hown : w.ownsRow base 9 1 v n (strV xs)) (hb : base <= w.heap.size) (hl : n <= 1099511627776) :
  ∃ v' w', (Builtin.append_ #[28, 28] 28 #[v, .slice (some ⟨w.heap.size, 0, none⟩) 1 1]).run Tryz.prog (w.alloc (.cells #[.string x] 9)) = .ok v' w' /\
   w'.ownsRow base 9 1 v' (n + 1) (strV (xs ++ [x])) /\ w.grownBy w' v.ownBlock /\ (v'.ownBlock = v.ownBlock \/ v'.ownBlock = some (w.heap.size + 1)) := by
 obtain ⟨i, hi, hz, hs, hby⟩ := info_str
 obtain ⟨v', w', hr, h2, h3, h4, h5⟩ := run_append_own_at (P := Tryz.prog) (w.alloc (.cells #[.string x] 9)) base 28 28 9 i (.string { data := #[] }) 1 16 Tryz.underlying28 hi hz hs hby rfl (by decide) v n (strV xs) (hown.alloc _) ⟨w.heap.size, 0, none⟩ 1 1 [.string x] rfl
  (by intro j u hj
      match j, hj with
      | 0, hj => simp at hj; subst hj; simp [Addr.add])
  (by intro u hu; simp at hu; subst hu; rfl) (by unfold maxLen; omega) (by omega) (by simp; omega)
 have h2' : w'.ownsRow base 9 1 v' (n + 1) (strV (xs ++ [x])) := by
  rw [strV_append]; exact h2
 exact ⟨v', w', hr, h2', grown_alloc h3, by simpa using h5⟩
def CheckP (xs now : List ByteArray) (s : ByteArray) (w : World) (e : Ending) (w' : World) : Prop :=
 ∃ (bo : Bool) (er : Int), e = .returned (.tuple #[.bool bo, .int .i64 er]) /\ Below w.heap.size w w' /\ er = (if queOk s = false \/ queC s = false then 4 else if hasR xs (queX s) = false then 5 else 0) /\ (bo = true ↔ er = 0 /\ ∃ u, InN (tsOf now) xs u (queX s) /\ thT u = thT (queY s))
theorem check_any (HN : Hid NodeC) (HW : Hid TWayC) {U xs now : List ByteArray} {b : Nat} {g : Pg} {w : World} (h : GateQ U xs now b g w) (s : ByteArray) (hs : s.size <= maxLen) (hQ : queOk s = true -> hasR xs (queX s) = true -> QueOk U s) (hO : okNd (queX s)) :
  Calls Tryz.prog 21 #[.pointer (some ⟨b, 0, none⟩), .string s] w (CheckP xs now s w) := by
 have hrq := readQuestion_any s w hs
 have HNO : Hid (∀ er : Int, er ≠ 0 -> er = (if queOk s = false \/ queC s = false then 4 else if hasR xs (queX s) = false then 5 else 0) -> ∀ w', Below w.heap.size w w' -> CheckP xs now s w (.returned (.tuple #[.bool false, .int .i64 er])) w') := by
  intro er he0 he w' hb
  exact ⟨false, er, rfl, hb, he, ⟨(fun e => by cases e), fun e => absurd e.1 he0⟩⟩
 cases hok : queOk s
 ·rw [hok, queVal_no hok] at hrq
  have H4 : Hid (∀ w', Below w.heap.size w w' -> CheckP xs now s w (.returned (.tuple #[.bool false, .int .i64 4])) w') := HNO.out 4 (by decide) (by rw [hok]; rfl)
  generalize CheckP xs now s w = P at *
  clear h hs hQ hO hok HNO HN HW
  go_enter Tryz.func21, Tryz.ntmps21
  go_wp2_with (go_at_call 45; refine hrq.mono ?_; rintro e w1 ⟨rfl, hb1⟩)
  exact H4.out _ (hb1.alloc hb1.size _)
 ·rw [hok, queVal_yes hok] at hrq
  have HIC : Hid (∀ w1, Calls Tryz.prog 46 #[.agg #[.string (queX s).k, .string (queX s).n, .string (queX s).r, .string (queY s).k, .string (queY s).n, .string (queY s).r]] w1 fun e w' => e = .returned (.bool (queC s)) /\ Below w1.heap.size w1 w') := fun w1 => isCheck_any _ _ _ _ _ _ w1
  cases hc : queC s
  ·rw [hc] at HIC
   have H4 : Hid (∀ w', Below w.heap.size w w' -> CheckP xs now s w (.returned (.tuple #[.bool false, .int .i64 4])) w') := HNO.out 4 (by decide) (by rw [hok, hc]; rfl)
   generalize CheckP xs now s w = P at *
   generalize queX s = x at *
   generalize queY s = y at *
   clear h hs hQ hO hok HNO HN HW hc
   go_enter Tryz.func21, Tryz.ntmps21
   go_wp2_with (first | (go_at_call 45; refine hrq.mono ?_; rintro e w1 ⟨rfl, hb1⟩) | (go_at_call 46; refine (HIC.out _).mono ?_; rintro e w2 ⟨rfl, hb2⟩; have hbB : Below w.heap.size w w2 := (hb1.alloc hb1.size _).trans (hb2.mono (by have := hb1.size; simp; omega))))
   exact H4.out _ hbB
  ·rw [hc] at HIC
   have HRU : Hid (∀ w1, Below w.heap.size w w1 -> Calls Tryz.prog 47 #[.pointer (some ⟨b, 0, none⟩), .agg #[.string (queX s).k, .string (queX s).n, .string (queX s).r]] w1 fun e w' => e = .returned (.bool (hasR xs (queX s))) /\ Below w1.heap.size w1 w') := fun w1 hb => hasR_any (h.to hb.block) hO
   cases hr : hasR xs (queX s)
   ·rw [hr] at HRU
    have H5 : Hid (∀ w', Below w.heap.size w w' -> CheckP xs now s w (.returned (.tuple #[.bool false, .int .i64 5])) w') := HNO.out 5 (by decide) (by rw [hok, hc, hr]; rfl)
    generalize CheckP xs now s w = P at *
    generalize queX s = x at *
    generalize queY s = y at *
    clear h hs hQ hO hok HNO HN HW hc hr
    go_enter Tryz.func21, Tryz.ntmps21
    go_wp2_with (first | (go_at_call 45; refine hrq.mono ?_; rintro e w1 ⟨rfl, hb1⟩) | (go_at_call 46; refine (HIC.out _).mono ?_; rintro e w2 ⟨rfl, hb2⟩; have hbB : Below w.heap.size w w2 := (hb1.alloc hb1.size _).trans (hb2.mono (by have := hb1.size; simp; omega)); have k0 := hb2.cell (p := ⟨w1.heap.size, 0, none⟩) (by simp); have k1 := hb2.cell (p := ⟨w1.heap.size, 1, none⟩) (by simp); have k2 := hb2.cell (p := ⟨w1.heap.size, 2, none⟩) (by simp)) | (go_at_call 47; refine (HRU.out _ hbB).mono ?_; rintro e w3 ⟨rfl, hb3⟩))
    exact H5.out _ (hbB.trans (hb3.mono hbB.size))
   ·rw [hr] at HRU
    have q := hQ hok hr
    have HAQ : Hid (∀ (wq : World) (qb : Nat), Below w.heap.size w wq -> wq.heap[qb]? = some (.cells (queL (queX s) (queY s)).toArray 77 (0, 0)) -> Calls Tryz.prog 42 #[.pointer (some ⟨b, 0, none⟩)] wq fun e w1 => ∃ tb, e = .returned (.pointer (some ⟨tb, 0, none⟩)) /\ w1.heap[qb]? = some (.cells (queL (queX s) (queY s)).toArray 77 (0, 0)) /\ Hid (∀ w1', Below w1.heap.size w1 w1' -> Calls Tryz.prog 43 #[.pointer (some ⟨tb, 0, none⟩), .agg #[.string (queX s).k, .string (queX s).n, .string (queX s).r]] w1' fun e w2 => ∃ wb, e = .returned (.pointer (some ⟨wb, 0, none⟩)) /\ w2.heap[qb]? = some (.cells (queL (queX s) (queY s)).toArray 77 (0, 0)) /\ Hid (∀ w2', Below w2.heap.size w2 w2' -> Calls Tryz.prog 48 #[.pointer (some ⟨wb, 0, none⟩), .agg #[.string (queY s).k, .string (queY s).n, .string (queY s).r]] w2' fun e w' => ∃ bo, e = .returned (.bool bo) /\ CheckP xs now s w (.returned (.tuple #[.bool bo, .int .i64 0])) w'))) := by
     intro wq qb hb hq
     refine (ask_q HN HW (h.to hb.block) q.ok q.th q.rU hq).mono ?_
     rintro e w1 ⟨tb, he, hq1, HC⟩
     refine ⟨tb, he, hq1, ?_⟩
     intro w1' hb1
     refine (HC.out w1' hb1).mono ?_
     rintro e w2 ⟨wb, he2, hq2, hA⟩
     refine ⟨wb, he2, hq2, ?_⟩
     intro w2' hb2
     refine (hA.out.has w2' hb2 (queY s) q.sz).mono ?_
     rintro e w' ⟨bo, he3, hiff, hbw⟩
     exact ⟨bo, he3, bo, 0, rfl, hb.trans (hbw.mono hb.size), by rw [hok, hc, hr]; rfl, hiff.trans ⟨fun e => ⟨rfl, e⟩, fun e => e.2⟩⟩
    generalize CheckP xs now s w = P at *
    clear q hQ hO
    generalize queX s = x at *
    generalize queY s = y at *
    clear h hs hok HNO HN HW hc hr
    go_enter Tryz.func21, Tryz.ntmps21
    go_wp2_with (first | (go_at_call 45; refine hrq.mono ?_; rintro e w1 ⟨rfl, hb1⟩) | (go_at_call 46; refine (HIC.out _).mono ?_; rintro e w2 ⟨rfl, hb2⟩; have hbB : Below w.heap.size w w2 := (hb1.alloc hb1.size _).trans (hb2.mono (by have := hb1.size; simp; omega)); have k0 := hb2.cell (p := ⟨w1.heap.size, 0, none⟩) (by simp); have k1 := hb2.cell (p := ⟨w1.heap.size, 1, none⟩) (by simp); have k2 := hb2.cell (p := ⟨w1.heap.size, 2, none⟩) (by simp); have hq2 : w2.heap[w1.heap.size]? = some (.cells (queL x y).toArray 77 (0, 0)) := (hb2.block _ (by simp)).trans (alloc_new w1 (queL x y) _)) | (go_at_call 47; refine (HRU.out _ hbB).mono ?_; rintro e w3 ⟨rfl, hb3⟩))
    have hbC : Below w.heap.size w w3 := hbB.trans (hb3.mono hbB.size)
    have hq3 : w3.heap[w1.heap.size]? = some (.cells (queL x y).toArray 77 (0, 0)) := (hb3.block _ (row_lt hq2)).trans hq2
    have HNW : Hid _ := HAQ.out w3.drew w1.heap.size hbC.drew hq3
    have l0 : w3.drew.cell? ⟨w1.heap.size, 0, none⟩ = some (.string x.k) := row_cell hq3 (j := 0) rfl
    have l1 : w3.drew.cell? ⟨w1.heap.size, 1, none⟩ = some (.string x.n) := row_cell hq3 (j := 1) rfl
    have l2 : w3.drew.cell? ⟨w1.heap.size, 2, none⟩ = some (.string x.r) := row_cell hq3 (j := 2) rfl
    have l3 : w3.drew.cell? ⟨w1.heap.size, 3, none⟩ = some (.string y.k) := row_cell hq3 (j := 3) rfl
    have l4 : w3.drew.cell? ⟨w1.heap.size, 4, none⟩ = some (.string y.n) := row_cell hq3 (j := 4) rfl
    have l5 : w3.drew.cell? ⟨w1.heap.size, 5, none⟩ = some (.string y.r) := row_cell hq3 (j := 5) rfl
    clear HAQ hq3 hq2 hbC hbB hb3 hb2 hb1 HIC HRU k0 k1 k2
    go_region_with (first | (go_at_call 42; refine (Calls.mono HNW.out) ?_; rintro e w4 ⟨tb, rfl, hq4, HWK⟩; have m0 := row_cell hq4 (j := 0) rfl; have m1 := row_cell hq4 (j := 1) rfl; have m2 := row_cell hq4 (j := 2) rfl; have m3 := row_cell hq4 (j := 3) rfl; have m4 := row_cell hq4 (j := 4) rfl; have m5 := row_cell hq4 (j := 5) rfl; clear hq4) | (go_at_call 43; refine (HWK.out _ (by repeat (first | exact Below.refl _ _ | refine Below.setCell ?_ (by first | exact Nat.le_refl _ | (simp; done) | (simp; omega)) _ | refine below_drewN ?_ _ | refine Below.drew ?_ | refine Below.alloc ?_ (by first | exact Nat.le_refl _ | (simp; done) | (simp; omega)) _))).mono ?_; rintro e w5 ⟨wb, rfl, hq5, HWH⟩; have p3 := row_cell hq5 (j := 3) rfl; have p4 := row_cell hq5 (j := 4) rfl; have p5 := row_cell hq5 (j := 5) rfl; clear hq5) | (go_at_call 48; refine (HWH.out _ (by repeat (first | exact Below.refl _ _ | refine Below.setCell ?_ (by first | exact Nat.le_refl _ | (simp; done) | (simp; omega)) _ | refine below_drewN ?_ _ | refine Below.drew ?_ | refine Below.alloc ?_ (by first | exact Nat.le_refl _ | (simp; done) | (simp; omega)) _))).mono ?_; rintro e w6 ⟨bo, rfl, hp⟩))
    all_goals go_wp2
    all_goals exact bodyPost_ret (v := .tuple #[.bool bo, .int .i64 0]) (by simp [results, Tryz.results21, go_sem]) rfl hp
end Go.Proofs.YtalmoiogbdahcaaGreat
