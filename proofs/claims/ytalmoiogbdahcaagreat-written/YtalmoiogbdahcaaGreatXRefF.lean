import Derived.Test.YtalmoiogbdahcaaGreatXRefD

/- Which texts are ways and rules, as the document's reader tells them. -/
namespace Go.Proofs.YtalmoiogbdahcaaGreat
open Go.RowKit

def apartS (s : ByteArray) : Pt := apartF s.size s
def wayF : Nat → ByteArray → Bool
  | 0, s => if (apartS s).is ≠ 124 ∧ (apartS s).is ≠ 38 then decide ((apartS s).is ≠ 120) else false
  | f + 1, s => if (apartS s).is ≠ 124 ∧ (apartS s).is ≠ 38 then decide ((apartS s).is ≠ 120) else wayF f (apartS s).A && wayF f (apartS s).B
def wayS (s : ByteArray) : Bool := wayF s.size s

theorem plain_is (s : ByteArray) : (plainS s).is ≠ 124 ∧ (plainS s).is ≠ 38 := by
  unfold plainS
  split
  · simp
  · split
    · simp
    · unfold arrowS
      split
      · simp [Pt.x]
      · split <;> simp [Pt.x]
theorem apart_size : ∀ (f : Nat) (s : ByteArray), ((apartF f s).is = 124 ∨ (apartF f s).is = 38) → (apartF f s).A.size < s.size ∧ (apartF f s).B.size < s.size := by
  intro f
  induction f with
  | zero =>
    intro s
    rw [apartF_eq]; unfold frameS
    have hbd := scan_bd s.data.toList s.size
    split
    · simp [Pt.x]
    · split
      · simp [Pt.x]
      · split
        · intro _; simp [opS]; omega
        · split
          · simp [innerF, Pt.x]
          · have := plain_is s; intro h; omega
  | succ f ih =>
    intro s
    rw [apartF_eq]; unfold frameS
    have hbd := scan_bd s.data.toList s.size
    split
    · simp [Pt.x]
    · split
      · simp [Pt.x]
      · split
        · intro _; simp [opS]; omega
        · split
          · intro h
            have := ih (s.extract 1 (s.size - 1)) h
            simp only [ByteArray.size_extract] at this
            show (apartF f _).A.size < _ ∧ (apartF f _).B.size < _
            omega
          · have := plain_is s; intro h; omega

set_option maxRecDepth 100000 in
set_option maxHeartbeats 1000000 in
theorem way_body (f : Nat) (HI : Hid (∀ g, f = g + 1 → ∀ (s : ByteArray) (w : World), s.size ≤ maxLen → s.size ≤ g → Calls Tryz.prog 165 #[.string s] w fun e w' => e = .returned (.bool (wayF g s)) ∧ Below w.heap.size w w'))
    (s : ByteArray) (w : World) (hs : s.size ≤ maxLen) (hf : s.size ≤ f) :
    Calls Tryz.prog 165 #[.string s] w fun e w' => e = .returned (.bool (wayF f s)) ∧ Below w.heap.size w w' := by
  have ha := fun w => apart_any s.size s w hs (Nat.le_refl _)
  have hz := apart_size s.size s
  change (∀ w, Calls Tryz.prog 199 #[.string s] w fun e w' => e = .returned (apartS s).val ∧ Below w.heap.size w w') at ha
  change ((apartS s).is = 124 ∨ (apartS s).is = 38) → (apartS s).A.size < s.size ∧ (apartS s).B.size < s.size at hz
  by_cases hop : (apartS s).is = 124 ∨ (apartS s).is = 38
  · obtain ⟨hA, hB⟩ := hz hop
    obtain ⟨g, rfl⟩ : ∃ g, f = g + 1 := ⟨f - 1, by omega⟩
    have hwa := fun w => HI.out g rfl (apartS s).A w (by omega) (by omega)
    have hwb := fun w => HI.out g rfl (apartS s).B w (by omega) (by omega)
    have HW : Hid (wayF (g + 1) s = (wayF g (apartS s).A && wayF g (apartS s).B)) := by
      show _ = _
      rw [wayF, if_neg (by omega)]
    clear HI hz hs hf hA hB
    unfold Pt.val at ha
    generalize (apartS s).A = A at *
    generalize (apartS s).B = B at *
    generalize (apartS s).is = i at *
    generalize wayF g A = x at *
    generalize wayF g B = y at *
    rcases hop with rfl | rfl
    all_goals
      cases x
      all_goals
        go_enter Tryz.func165, Tryz.ntmps165
        go_wp2_with (first | (go_at_call 199; refine (ha _).mono ?_; rintro e w1 ⟨rfl, hb1⟩; have hz1 := hb1.size) | (go_at_call 165; refine (hwa _).mono ?_; clear hwa; rintro e w2 ⟨rfl, hb2⟩; obtain ⟨hc2, hf2⟩ := bcell hb2; have hz2 := hb2.size; simp only [World.size_alloc] at hc2 hf2 hz2) | (go_at_call 165; refine (hwb _).mono ?_; rintro e w3 ⟨rfl, hb3⟩))
        go_ret
        exact ⟨ret_bool (by rw [HW.out]; rfl), ((hb1.alloc hb1.size _).trans (hb2.mono (by simp; omega))).trans (hb3.mono (by omega))⟩
  · have HW : Hid (wayF f s = decide ((apartS s).is ≠ 120)) := by
      show _ = _
      cases f <;> rw [wayF, if_pos (by omega)]
    have h1 : ((apartS s).is != 124) = true := by simp; omega
    have h2 : ((apartS s).is != 38) = true := by simp; omega
    clear HI hz hop
    unfold Pt.val at ha
    generalize (apartS s).A = A at *
    generalize (apartS s).B = B at *
    generalize (apartS s).is = i at *
    go_enter Tryz.func165, Tryz.ntmps165
    go_wp2_with (go_at_call 199; refine (ha _).mono ?_; rintro e w1 ⟨rfl, hb1⟩; have hz1 := hb1.size)
    go_ret
    exact ⟨ret_bool (by rw [HW.out, Bool.eq_iff_iff]; simp), hb1.alloc hb1.size _⟩

theorem way_f : ∀ (f : Nat) (s : ByteArray) (w : World), s.size ≤ maxLen → s.size ≤ f →
    Calls Tryz.prog 165 #[.string s] w fun e w' => e = .returned (.bool (wayF f s)) ∧ Below w.heap.size w w' := by
  intro f
  induction f with
  | zero => exact fun s w h1 h2 => way_body 0 (fun g hg => by omega) s w h1 h2
  | succ f ih =>
    refine fun s w h1 h2 => way_body (f + 1) ?_ s w h1 h2
    intro g hg
    have e : f = g := by omega
    subst e
    exact ih
theorem way_any (s : ByteArray) (w : World) (hs : s.size ≤ maxLen) : Calls Tryz.prog 165 #[.string s] w fun e w' => e = .returned (.bool (wayS s)) ∧ Below w.heap.size w w' := way_f s.size s w hs (Nat.le_refl _)

/-- how many brackets are open behind k bytes, without regard to what stands there. -/
def deepK (l : List UInt8) : Nat → Int
  | 0 => 0
  | k + 1 => deepK l k + (if ((l.getD k 0).toNat : Int) = 40 then 1 else 0) - (if ((l.getD k 0).toNat : Int) = 41 then 1 else 0)
def tooDeep (l : List UInt8) : Nat → Bool
  | 0 => false
  | k + 1 => tooDeep l k || decide (5 < deepK l (k + 1))
/-- is a text a rule; of what; its way. -/
def readOf (s : ByteArray) : ByteArray := cutA s 61
def readWay (s : ByteArray) : ByteArray := cutZ s 61
def readS (s : ByteArray) : Bool := decide (s.size ≤ 200) && !tooDeep (readWay s).data.toList (readWay s).size && cutOk s 61 && cutOk (readOf s) 35 && nameS (cutA (readOf s) 35) && nameS (cutZ (readOf s) 35) && wayS (readWay s) && !decide (cutZ (readOf s) 35 = thisS)
theorem deepK_bd (l : List UInt8) (k : Nat) : -(k : Int) ≤ deepK l k ∧ deepK l k ≤ k := by
  induction k with
  | zero => simp [deepK]
  | succ k ih => rw [deepK]; split <;> split <;> omega
theorem tooDeep_mono (l : List UInt8) {k n : Nat} (h : tooDeep l k = true) (hk : k ≤ n) : tooDeep l n = true := by
  induction n with
  | zero => have : k = 0 := by omega
            subst this; exact h
  | succ n ih =>
    by_cases e : k = n + 1
    · subst e; exact h
    · rw [tooDeep, ih (by omega)]; rfl

set_option maxRecDepth 100000 in
set_option maxHeartbeats 2000000 in
theorem read_any (s : ByteArray) (w : World) (hs : s.size ≤ maxLen) :
    Calls Tryz.prog 116 #[.string s] w fun e w' => ∃ A B, e = .returned (.tuple #[.agg #[.string A, .string B], .bool (readS s)]) ∧ (readS s = true → A = readOf s ∧ B = readWay s) ∧ Below w.heap.size w w' := by
  have HS : Hid (s.size ≤ maxLen) := hs
  unfold maxLen at hs
  by_cases hlong : 200 < s.size
  · have hr : readS s = false := by unfold readS; rw [decide_eq_false (by omega)]; rfl
    rw [hr]
    clear hr
    go_enter Tryz.func116, Tryz.ntmps116
    go_wp2
    refine bodyPost_ret (v := .tuple #[.agg #[.string { data := #[] }, .string { data := #[] }], .bool false]) (by simp [results, Tryz.results116, go_sem]) rfl ⟨_, _, rfl, by simp, ?_⟩
    exact (Below.refl _ _).alloc (Nat.le_refl _) _
  · obtain ⟨A1, Z1, O1, hA1, hZ1, hO1, hs1, hs2, hc1⟩ := cut_gen s 61 HS.out
    obtain ⟨A2, Z2, O2, hA2, hZ2, hO2, hs3, hs4, hc2⟩ := cut_gen A1 35 hs1
    have HR : Hid (readS s = (!tooDeep Z1.data.toList Z1.size && O1 && O2 && nameS A2 && nameS Z2 && wayS Z1 && !decide (Z2 = thisS))) := by
      show _ = _
      unfold readS readOf readWay
      rw [hA1, hZ1, hO1, hA2, hZ2, hO2, decide_eq_true (by omega : s.size ≤ 200), Bool.true_and]
    have HO : Hid (readOf s = A1 ∧ readWay s = Z1) := ⟨hA1, hZ1⟩
    have hn1 := fun w => name_any A2 w hs3
    have hn2 := fun w => name_any Z2 w hs4
    have hwy := fun w => way_any Z1 w hs2
    have HZ1 : Hid (Z1.size ≤ maxLen) := hs2
    clear hA1 hZ1 hO1 hA2 hZ2 hO2 hs1 hs3 hs4
    unfold maxLen at hs2
    generalize nameS A2 = x at *
    generalize nameS Z2 = y at *
    generalize wayS Z1 = z at *
    go_enter Tryz.func116, Tryz.ntmps116
    go_wp2_with (first | (go_at_call 117; refine (hc1 _).mono ?_; clear hc1; rintro e w' ⟨rfl, ⟨n1, rfl⟩⟩) | (go_at_call 117; refine (hc2 _).mono ?_; rintro e w' ⟨rfl, ⟨n2, rfl⟩⟩) | (go_at_call 119; refine (hn1 _).mono ?_; clear hn1; rintro e w' ⟨rfl, rfl⟩) | (go_at_call 119; refine (hn2 _).mono ?_; rintro e w' ⟨rfl, rfl⟩))
    go_loop [12, 13] (fun d i => ∃ k : Nat, k ≤ Z1.size ∧ i = .int .i64 k ∧ d = .int .i64 (deepK Z1.data.toList k) ∧ tooDeep Z1.data.toList k = false) (fun _ i => Z1.size - (intOf i).toNat)
    case atStart => exact ⟨0, by omega, rfl, rfl, rfl⟩
    case round =>
      obtain ⟨k, hk, rfl, rfl, hd⟩ := hrel
      have HD : Hid (tooDeep Z1.data.toList k = false) := hd
      clear hd
      by_cases hlt : k < Z1.size
      · have hbd := deepK_bd Z1.data.toList k
        have HK : Hid (deepK Z1.data.toList (k + 1) = deepK Z1.data.toList k + (if byteAt Z1 k = 40 then 1 else 0) - (if byteAt Z1 k = 41 then 1 else 0)) := rfl
        have HG : Hid (tooDeep Z1.data.toList (k + 1) = (tooDeep Z1.data.toList k || decide (5 < deepK Z1.data.toList (k + 1)))) := rfl
        obtain ⟨c, hc⟩ : ∃ c : Int, (Z1[k].toNat : Int) = c := ⟨_, rfl⟩
        rw [byteAt_eq Z1 k hlt, hc] at HK
        generalize hq1 : deepK Z1.data.toList (k + 1) = d1 at HK HG
        have HQ1 : Hid (deepK Z1.data.toList (k + 1) = d1) := hq1
        clear hq1
        generalize deepK Z1.data.toList k = d at *
        by_cases h40 : c = 40
        · subst h40
          have HK2 : Hid (d1 = d + 1) := by show _ = _; rw [HK.out]; simp
          by_cases h5 : 5 < d + 1
          · have HX : Hid (readS s = false) := by
              show _ = _
              rw [HR.out, tooDeep_mono _ (k := k + 1) (by rw [HG.out, HK2.out]; simp; omega) (by omega)]; simp
            go_wp2
            refine bodyPost_ret (v := .tuple #[.agg #[.string { data := #[] }, .string { data := #[] }], .bool false]) (by simp [results, Tryz.results116, go_sem]) rfl ⟨_, _, by rw [HX.out], by rw [HX.out]; simp, ?_⟩
            repeat (first | exact Below.refl _ _ | refine Below.setCell ?_ (by first | exact Nat.le_refl _ | simp) _ | refine below_drewN ?_ _ | refine Below.drew ?_ | refine Below.alloc ?_ (by first | exact Nat.le_refl _ | simp) _)
          · go_wp2
            go_round
            case rel => exact ⟨k + 1, by omega, by go_num, by rw [HQ1.out, HK2.out], by rw [HG.out, HD.out, HK2.out]; simp; omega⟩
            case measure => simp [intOf]; omega
        · by_cases h41 : c = 41
          · subst h41
            have HK2 : Hid (d1 = d - 1) := by show _ = _; rw [HK.out]; simp
            by_cases h5 : 5 < d - 1
            · have HX : Hid (readS s = false) := by
                show _ = _
                rw [HR.out, tooDeep_mono _ (k := k + 1) (by rw [HG.out, HK2.out]; simp; omega) (by omega)]; simp
              go_wp2
              refine bodyPost_ret (v := .tuple #[.agg #[.string { data := #[] }, .string { data := #[] }], .bool false]) (by simp [results, Tryz.results116, go_sem]) rfl ⟨_, _, by rw [HX.out], by rw [HX.out]; simp, ?_⟩
              repeat (first | exact Below.refl _ _ | refine Below.setCell ?_ (by first | exact Nat.le_refl _ | simp) _ | refine below_drewN ?_ _ | refine Below.drew ?_ | refine Below.alloc ?_ (by first | exact Nat.le_refl _ | simp) _)
              
            · go_wp2
              go_round
              case rel => exact ⟨k + 1, by omega, by go_num, by rw [HQ1.out, HK2.out], by rw [HG.out, HD.out, HK2.out]; simp; omega⟩
              case measure => simp [intOf]; omega
              
          · have HK2 : Hid (d1 = d) := by show _ = _; rw [HK.out]; simp [h40, h41]
            have h40b : (c == 40) = false := by simpa using h40
            have h41b : (c == 41) = false := by simpa using h41
            by_cases h5 : 5 < d
            · have HX : Hid (readS s = false) := by
                show _ = _
                rw [HR.out, tooDeep_mono _ (k := k + 1) (by rw [HG.out, HK2.out]; simp; omega) (by omega)]; simp
              go_wp2
              refine bodyPost_ret (v := .tuple #[.agg #[.string { data := #[] }, .string { data := #[] }], .bool false]) (by simp [results, Tryz.results116, go_sem]) rfl ⟨_, _, by rw [HX.out], by rw [HX.out]; simp, ?_⟩
              repeat (first | exact Below.refl _ _ | refine Below.setCell ?_ (by first | exact Nat.le_refl _ | simp) _ | refine below_drewN ?_ _ | refine Below.drew ?_ | refine Below.alloc ?_ (by first | exact Nat.le_refl _ | simp) _)
              
            · go_wp2
              go_round
              case rel => exact ⟨k + 1, by omega, by go_num, by rw [HQ1.out, HK2.out], by rw [HG.out, HD.out, HK2.out]; simp; omega⟩
              case measure => simp [intOf]; omega
              
      · obtain rfl : k = Z1.size := by omega
        rw [HD.out] at HR
        clear hs2 hk hlt
        by_cases hth : Z2 = thisS
        · have hb : (Z2.toList == [116, 104, 105, 115]) = true := by rw [← thisS_list]; exact eq_this Z2 thisS hth
          rw [decide_eq_true hth] at HR
          clear hth
          cases O1
          · go_wp2_with (go_at_call 165; refine (hwy _).mono ?_; rintro e w3 ⟨rfl, hb3⟩; obtain ⟨hc3, hf3⟩ := bcell hb3; have hz3 := hb3.size; simp only [World.size_alloc, World.heap_drewN] at hc3 hf3 hz3)
            refine bodyPost_ret (v := .tuple #[.agg #[.string A1, .string Z1], .bool false]) (by simp [results, Tryz.results116, go_sem, hc3]) rfl ⟨A1, Z1, ?_, fun _ => ⟨HO.out.1.symm, HO.out.2.symm⟩, ?_⟩
            · rw [HR.out]; simp
            · refine Below.setCell ?_ (by simp) _
              refine Below.setCell ?_ (by simp) _
              refine Below.trans ?_ (hb3.mono (by simp))
              repeat (first | exact Below.refl _ _ | refine Below.setCell ?_ (by first | exact Nat.le_refl _ | simp) _ | refine below_drewN ?_ _ | refine Below.drew ?_ | refine Below.alloc ?_ (by first | exact Nat.le_refl _ | simp) _)
          · cases O2
            · go_wp2_with (go_at_call 165; refine (hwy _).mono ?_; rintro e w3 ⟨rfl, hb3⟩; obtain ⟨hc3, hf3⟩ := bcell hb3; have hz3 := hb3.size; simp only [World.size_alloc, World.heap_drewN] at hc3 hf3 hz3)
              refine bodyPost_ret (v := .tuple #[.agg #[.string A1, .string Z1], .bool false]) (by simp [results, Tryz.results116, go_sem, hc3]) rfl ⟨A1, Z1, ?_, fun _ => ⟨HO.out.1.symm, HO.out.2.symm⟩, ?_⟩
              · rw [HR.out]; simp
              · refine Below.setCell ?_ (by simp) _
                refine Below.setCell ?_ (by simp) _
                refine Below.trans ?_ (hb3.mono (by simp))
                repeat (first | exact Below.refl _ _ | refine Below.setCell ?_ (by first | exact Nat.le_refl _ | simp) _ | refine below_drewN ?_ _ | refine Below.drew ?_ | refine Below.alloc ?_ (by first | exact Nat.le_refl _ | simp) _)
            · cases x
              · go_wp2_with (go_at_call 165; refine (hwy _).mono ?_; rintro e w3 ⟨rfl, hb3⟩; obtain ⟨hc3, hf3⟩ := bcell hb3; have hz3 := hb3.size; simp only [World.size_alloc, World.heap_drewN] at hc3 hf3 hz3)
                refine bodyPost_ret (v := .tuple #[.agg #[.string A1, .string Z1], .bool false]) (by simp [results, Tryz.results116, go_sem, hc3]) rfl ⟨A1, Z1, ?_, fun _ => ⟨HO.out.1.symm, HO.out.2.symm⟩, ?_⟩
                · rw [HR.out]; simp
                · refine Below.setCell ?_ (by simp) _
                  refine Below.setCell ?_ (by simp) _
                  refine Below.trans ?_ (hb3.mono (by simp))
                  repeat (first | exact Below.refl _ _ | refine Below.setCell ?_ (by first | exact Nat.le_refl _ | simp) _ | refine below_drewN ?_ _ | refine Below.drew ?_ | refine Below.alloc ?_ (by first | exact Nat.le_refl _ | simp) _)
              · cases y
                · go_wp2_with (go_at_call 165; refine (hwy _).mono ?_; rintro e w3 ⟨rfl, hb3⟩; obtain ⟨hc3, hf3⟩ := bcell hb3; have hz3 := hb3.size; simp only [World.size_alloc, World.heap_drewN] at hc3 hf3 hz3)
                  refine bodyPost_ret (v := .tuple #[.agg #[.string A1, .string Z1], .bool false]) (by simp [results, Tryz.results116, go_sem, hc3]) rfl ⟨A1, Z1, ?_, fun _ => ⟨HO.out.1.symm, HO.out.2.symm⟩, ?_⟩
                  · rw [HR.out]; simp
                  · refine Below.setCell ?_ (by simp) _
                    refine Below.setCell ?_ (by simp) _
                    refine Below.trans ?_ (hb3.mono (by simp))
                    repeat (first | exact Below.refl _ _ | refine Below.setCell ?_ (by first | exact Nat.le_refl _ | simp) _ | refine below_drewN ?_ _ | refine Below.drew ?_ | refine Below.alloc ?_ (by first | exact Nat.le_refl _ | simp) _)
                · cases z
                  · go_wp2_with (go_at_call 165; refine (hwy _).mono ?_; rintro e w3 ⟨rfl, hb3⟩; obtain ⟨hc3, hf3⟩ := bcell hb3; have hz3 := hb3.size; simp only [World.size_alloc, World.heap_drewN] at hc3 hf3 hz3)
                    refine bodyPost_ret (v := .tuple #[.agg #[.string A1, .string Z1], .bool false]) (by simp [results, Tryz.results116, go_sem, hc3]) rfl ⟨A1, Z1, ?_, fun _ => ⟨HO.out.1.symm, HO.out.2.symm⟩, ?_⟩
                    · rw [HR.out]; simp
                    · refine Below.setCell ?_ (by simp) _
                      refine Below.setCell ?_ (by simp) _
                      refine Below.trans ?_ (hb3.mono (by simp))
                      repeat (first | exact Below.refl _ _ | refine Below.setCell ?_ (by first | exact Nat.le_refl _ | simp) _ | refine below_drewN ?_ _ | refine Below.drew ?_ | refine Below.alloc ?_ (by first | exact Nat.le_refl _ | simp) _)
                  · go_wp2_with (go_at_call 165; refine (hwy _).mono ?_; rintro e w3 ⟨rfl, hb3⟩; obtain ⟨hc3, hf3⟩ := bcell hb3; have hz3 := hb3.size; simp only [World.size_alloc, World.heap_drewN] at hc3 hf3 hz3)
                    refine bodyPost_ret (v := .tuple #[.agg #[.string A1, .string Z1], .bool false]) (by simp [results, Tryz.results116, go_sem, hc3]) rfl ⟨A1, Z1, ?_, fun _ => ⟨HO.out.1.symm, HO.out.2.symm⟩, ?_⟩
                    · rw [HR.out]; simp
                    · refine Below.setCell ?_ (by simp) _
                      refine Below.setCell ?_ (by simp) _
                      refine Below.trans ?_ (hb3.mono (by simp))
                      repeat (first | exact Below.refl _ _ | refine Below.setCell ?_ (by first | exact Nat.le_refl _ | simp) _ | refine below_drewN ?_ _ | refine Below.drew ?_ | refine Below.alloc ?_ (by first | exact Nat.le_refl _ | simp) _)
        · have hb : (Z2.toList == [116, 104, 105, 115]) = false := by rw [← thisS_list]; exact ne_this Z2 thisS hth
          rw [decide_eq_false hth] at HR
          clear hth
          cases O1
          · go_wp2_with (go_at_call 165; refine (hwy _).mono ?_; rintro e w3 ⟨rfl, hb3⟩; obtain ⟨hc3, hf3⟩ := bcell hb3; have hz3 := hb3.size; simp only [World.size_alloc, World.heap_drewN] at hc3 hf3 hz3)
            refine bodyPost_ret (v := .tuple #[.agg #[.string A1, .string Z1], .bool false]) (by simp [results, Tryz.results116, go_sem, hc3]) rfl ⟨A1, Z1, ?_, fun _ => ⟨HO.out.1.symm, HO.out.2.symm⟩, ?_⟩
            · rw [HR.out]; simp
            · refine Below.setCell ?_ (by simp) _
              refine Below.setCell ?_ (by simp) _
              refine Below.trans ?_ (hb3.mono (by simp))
              repeat (first | exact Below.refl _ _ | refine Below.setCell ?_ (by first | exact Nat.le_refl _ | simp) _ | refine below_drewN ?_ _ | refine Below.drew ?_ | refine Below.alloc ?_ (by first | exact Nat.le_refl _ | simp) _)
          · cases O2
            · go_wp2_with (go_at_call 165; refine (hwy _).mono ?_; rintro e w3 ⟨rfl, hb3⟩; obtain ⟨hc3, hf3⟩ := bcell hb3; have hz3 := hb3.size; simp only [World.size_alloc, World.heap_drewN] at hc3 hf3 hz3)
              refine bodyPost_ret (v := .tuple #[.agg #[.string A1, .string Z1], .bool false]) (by simp [results, Tryz.results116, go_sem, hc3]) rfl ⟨A1, Z1, ?_, fun _ => ⟨HO.out.1.symm, HO.out.2.symm⟩, ?_⟩
              · rw [HR.out]; simp
              · refine Below.setCell ?_ (by simp) _
                refine Below.setCell ?_ (by simp) _
                refine Below.trans ?_ (hb3.mono (by simp))
                repeat (first | exact Below.refl _ _ | refine Below.setCell ?_ (by first | exact Nat.le_refl _ | simp) _ | refine below_drewN ?_ _ | refine Below.drew ?_ | refine Below.alloc ?_ (by first | exact Nat.le_refl _ | simp) _)
            · cases x
              · go_wp2_with (go_at_call 165; refine (hwy _).mono ?_; rintro e w3 ⟨rfl, hb3⟩; obtain ⟨hc3, hf3⟩ := bcell hb3; have hz3 := hb3.size; simp only [World.size_alloc, World.heap_drewN] at hc3 hf3 hz3)
                refine bodyPost_ret (v := .tuple #[.agg #[.string A1, .string Z1], .bool false]) (by simp [results, Tryz.results116, go_sem, hc3]) rfl ⟨A1, Z1, ?_, fun _ => ⟨HO.out.1.symm, HO.out.2.symm⟩, ?_⟩
                · rw [HR.out]; simp
                · refine Below.setCell ?_ (by simp) _
                  refine Below.setCell ?_ (by simp) _
                  refine Below.trans ?_ (hb3.mono (by simp))
                  repeat (first | exact Below.refl _ _ | refine Below.setCell ?_ (by first | exact Nat.le_refl _ | simp) _ | refine below_drewN ?_ _ | refine Below.drew ?_ | refine Below.alloc ?_ (by first | exact Nat.le_refl _ | simp) _)
              · cases y
                · go_wp2_with (go_at_call 165; refine (hwy _).mono ?_; rintro e w3 ⟨rfl, hb3⟩; obtain ⟨hc3, hf3⟩ := bcell hb3; have hz3 := hb3.size; simp only [World.size_alloc, World.heap_drewN] at hc3 hf3 hz3)
                  refine bodyPost_ret (v := .tuple #[.agg #[.string A1, .string Z1], .bool false]) (by simp [results, Tryz.results116, go_sem, hc3]) rfl ⟨A1, Z1, ?_, fun _ => ⟨HO.out.1.symm, HO.out.2.symm⟩, ?_⟩
                  · rw [HR.out]; simp
                  · refine Below.setCell ?_ (by simp) _
                    refine Below.setCell ?_ (by simp) _
                    refine Below.trans ?_ (hb3.mono (by simp))
                    repeat (first | exact Below.refl _ _ | refine Below.setCell ?_ (by first | exact Nat.le_refl _ | simp) _ | refine below_drewN ?_ _ | refine Below.drew ?_ | refine Below.alloc ?_ (by first | exact Nat.le_refl _ | simp) _)
                · cases z
                  · go_wp2_with (go_at_call 165; refine (hwy _).mono ?_; rintro e w3 ⟨rfl, hb3⟩; obtain ⟨hc3, hf3⟩ := bcell hb3; have hz3 := hb3.size; simp only [World.size_alloc, World.heap_drewN] at hc3 hf3 hz3)
                    refine bodyPost_ret (v := .tuple #[.agg #[.string A1, .string Z1], .bool false]) (by simp [results, Tryz.results116, go_sem, hc3]) rfl ⟨A1, Z1, ?_, fun _ => ⟨HO.out.1.symm, HO.out.2.symm⟩, ?_⟩
                    · rw [HR.out]; simp
                    · refine Below.setCell ?_ (by simp) _
                      refine Below.setCell ?_ (by simp) _
                      refine Below.trans ?_ (hb3.mono (by simp))
                      repeat (first | exact Below.refl _ _ | refine Below.setCell ?_ (by first | exact Nat.le_refl _ | simp) _ | refine below_drewN ?_ _ | refine Below.drew ?_ | refine Below.alloc ?_ (by first | exact Nat.le_refl _ | simp) _)
                  · go_wp2_with (go_at_call 165; refine (hwy _).mono ?_; rintro e w3 ⟨rfl, hb3⟩; obtain ⟨hc3, hf3⟩ := bcell hb3; have hz3 := hb3.size; simp only [World.size_alloc, World.heap_drewN] at hc3 hf3 hz3)
                    refine bodyPost_ret (v := .tuple #[.agg #[.string A1, .string Z1], .bool true]) (by simp [results, Tryz.results116, go_sem, hc3]) rfl ⟨A1, Z1, ?_, fun _ => ⟨HO.out.1.symm, HO.out.2.symm⟩, ?_⟩
                    · rw [HR.out]; simp
                    · refine Below.setCell ?_ (by simp) _
                      refine Below.setCell ?_ (by simp) _
                      refine Below.trans ?_ (hb3.mono (by simp))
                      repeat (first | exact Below.refl _ _ | refine Below.setCell ?_ (by first | exact Nat.le_refl _ | simp) _ | refine below_drewN ?_ _ | refine Below.drew ?_ | refine Below.alloc ?_ (by first | exact Nat.le_refl _ | simp) _)

end Go.Proofs.YtalmoiogbdahcaaGreat
