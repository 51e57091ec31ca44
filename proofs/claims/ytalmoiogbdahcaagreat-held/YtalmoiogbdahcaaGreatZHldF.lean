import Derived.Test.YtalmoiogbdahcaaGreatZSetA
import Derived.Test.YtalmoiogbdahcaaGreatZKrlC
namespace Go.Proofs.YtalmoiogbdahcaaGreat
set_option maxRecDepth 100000
set_option maxHeartbeats 8000000
open Go.RowKit Go.Shelf
def HldR (l now : List ByteArray) (wP : World) (f gi a k : Nat) (gv pv : Value) (wr : World) : Prop :=
 ∃ (gs ps : List Nat) (og op : Option Addr) (cg cp : Nat), gv = .slice og gs.length cg /\ pv = .slice op ps.length cp /\ gs[gi]? = some a /\ HldK l now f gi k gs ps /\ TwoR wP gv pv (gs.map letS) (ps.map usrS) wr
theorem held_any (HN : Hid NodeC) (HW : Hid TWayC) {w : World} {rv : Value} {cs : List Int} (hr : IntsAt w rv cs) (hcs : ∀ c ∈ cs, -9223372036854775808 <= c /\ c <= 9223372036854775807) (hl : cs.length <= 9223372036854775807) (wh : Int) (hw1 : -9223372036854775808 <= wh) (hw2 : wh <= 9223372036854775807) :
  Calls Tryz.prog 6 #[rv, .int .i64 wh] w fun e w' => e = .returned (.bool true) /\ Below w.heap.size w w' := by
 have HOP : Hid (Calls Tryz.prog 14 #[.int .i64 1, .int .i64 1] w (KOpenP w)) := kOpen_any HN HW w 1 1 (by decide) (by decide) (by decide) (by decide)
 have HPT : Hid (∀ (gb : Nat) (g : Pg) (m : List (Value × Value)) (lo : Nat) (w1 : World), Below w.heap.size w w1 -> g.ver = 1 -> KG w1 w.heap.size gb g m lo krules know0 -> Calls Tryz.prog 15 #[.pointer (some ⟨gb, 0, none⟩), rv, .int .i64 30] w1 fun e wP => ∃ o c, e = .returned (.tuple #[.slice o (putL cs 30).length c, .bool true]) /\ HeldP w gb (putL cs 30) (.slice o (putL cs 30).length c) wP) := fun gb g m lo w1 hb hv kg => held_put hr hcs hl hb hv kg 30 (by decide)
 obtain ⟨b1, b2⟩ := pickN_bd wh 4 (by decide)
 have hpk := fun w1 => kPick_any wh 4 w1 hw1 hw2 (by decide) (by decide)
 obtain ⟨f, hf⟩ := Int.eq_ofNat_of_zero_le b1
 rw [hf] at hpk b2
 have hf4 : f < 4 := by omega
 have HPK : Hid (∀ w1, Calls Tryz.prog 17 #[.int .i64 wh, .int .i64 4] w1 fun e w' => e = .returned (.int .i64 (f : Nat)) /\ w' = w1) := hpk
 have HLT : Hid (∀ (n : Nat) (w1 : World), n <= 4 -> Calls Tryz.prog 16 #[.int .i64 (n : Nat)] w1 fun e w' => e = .returned (.string (letS n)) /\ Below w1.heap.size w1 w') := fun n w1 hn => letter_any n w1 (by omega)
 have HTT : Hid (∀ (gb : Nat) (g : Pg) (m : List (Value × Value)) (lo : Nat) (w1 : World) , KG w1 w.heap.size gb g m lo krules (putN know0 (putL cs 30)) -> HeldT (putL cs 30) (putN know0 (putL cs 30))) := fun gb g m lo w1 kg => held_t kg
 have hll : (putL cs 30).length <= 30 := putL_len cs 30
 have hrv : ∃ x n c, rv = .slice x n c := by
  rcases hr with ⟨⟨x, c, rfl⟩, -⟩ | ⟨b, off, cap, rfl, -⟩
  ·exact ⟨_, _, _, rfl⟩
  ·exact ⟨_, _, _, rfl⟩
 obtain ⟨rx, rn, rc, rfl⟩ := hrv
 clear hr hcs hl hpk hf b1 b2 hw1 hw2
 generalize putL cs 30 = l at *
 have sf := letS_size f
 go_enter Tryz.func6, Tryz.ntmps6
 go_wp2_with (first | (go_at_call 14; refine HOP.out.mono ?_; rintro e w1 ⟨gb, g, m, lo, rfl, hb1, hv1, hkg⟩; have HPU : Hid (Calls Tryz.prog 15 #[.pointer (some ⟨gb, 0, none⟩), .slice rx rn rc, .int .i64 30] w1 _) := HPT.out gb g m lo w1 hb1 hv1 hkg; clear hb1 hv1 hkg) | (go_at_call 15; refine HPU.out.mono ?_; rintro e wP ⟨lo', lc, rfl, hP⟩; have HP0 : Hid (HeldP w gb l (.slice lo' l.length lc) wP) := hP; clear hP) | (go_at_call 17; refine (HPK.out _).mono ?_; rintro e w2 ⟨rfl, hw2⟩; subst w2) | (go_at_call 16; refine (HLT.out f _ (by omega)).mono ?_; rintro e w3 ⟨rfl, hb3⟩; have HB3 : Hid (Below wP.heap.size wP w3) := hb3; clear hb3))
 obtain ⟨⟨g2, m2, lo2, hkg⟩, hls, hbw⟩ := HP0.out
 have HT : Hid (HeldT l (putN know0 l)) := HTT.out gb g2 m2 lo2 wP hkg
 have HKG : Hid (∀ w', Below wP.heap.size wP w' -> KG w' w.heap.size gb g2 m2 lo2 krules (putN know0 l)) := fun w' hb => hkg.later hb
 have HLS : Hid (∀ w', Below wP.heap.size wP w' -> ∀ s, Calls Tryz.prog 18 #[.slice lo' l.length lc, .string s] w' fun e w'' => e = .returned (.bool (hasL l s)) /\ w'' = w') := fun w' hb s => kHas_any _ l s w' (strs_below hls hb) (by unfold maxLen; omega)
 have HBW : Hid (Below w.heap.size w wP) := hbw
 clear hkg hls hbw HP0 HTT HPT HOP HPU
 generalize hnow : putN know0 l = now at *
 clear hnow
 have HST : Hid (TwoR wP (.slice (some ⟨w3.heap.size, 0, none⟩) 1 1) (.slice none 0 0) ([f].map letS) (([] : List Nat).map usrS) (w3.alloc (.cells #[.string (letS f)] 9))) :=
  ⟨⟨by simp [strV], Or.inr ⟨w3.heap.size, 1, #[.string (letS f)], rfl, HB3.out.size, alloc_new w3 [.string (letS f)] _, Nat.le_refl _, by unfold maxLen; omega, rfl, rfl⟩⟩, World.ownsRow_nil _ _ _ _, (fun j _ h => by cases h), HB3.out.alloc HB3.out.size _⟩
 go_loopw [9, 10, 11] (fun gv pv i wr => ∃ (gi : Nat) (gs ps : List Nat) (og op : Option Addr) (cg cp : Nat), gv = .slice og gs.length cg /\ pv = .slice op ps.length cp /\ i = .int .i64 gi /\ gi <= gs.length /\ HldK l now f gi 0 gs ps /\ TwoR wP gv pv (gs.map letS) (ps.map usrS) wr) (fun _ _ i _ => 5 - (intOf i).toNat)
 case atStart => exact ⟨0, [f], [], _, _, _, _, rfl, rfl, rfl, Nat.zero_le _, HldK.start hf4, HST.out⟩
 case round =>
  obtain ⟨gi, gs, ps, og, op, cg, cp, rfl, rfl, rfl, hgi, hK, hT⟩ := hrel
  clear HST
  have hlen := hK.len
  have HK : Hid (HldK l now f gi 0 gs ps) := hK
  have HTW : Hid (TwoR wP (.slice og gs.length cg) (.slice op ps.length cp) (gs.map letS) (ps.map usrS) wr) := hT
  clear hK hT
  by_cases hlt : gi < gs.length
  ·obtain ⟨a, ha⟩ : ∃ a, gs[gi]? = some a := ⟨_, List.getElem?_eq_getElem hlt⟩
   have HA : Hid (gs[gi]? = some a) := ha
   clear ha
   have sa := letS_size a
   go_wp2
   go_loopw [9, 10, 12] (fun gv pv i w4 => ∃ (k : Nat), i = .int .i64 k /\ k <= 4 /\ HldR l now wP f gi a k gv pv w4) (fun _ _ i _ => 4 - (intOf i).toNat)
   case atStart => exact ⟨0, rfl, Nat.zero_le _, gs, ps, og, op, cg, cp, rfl, rfl, HA.out, HK.out, HTW.out⟩
   case round =>
    obtain ⟨k, rfl, hk4, hR⟩ := hrel
    clear HK HTW HA hlt
    obtain ⟨gs, ps, og, op, cg, cp, rfl, rfl, ha, hK, hT⟩ := hR
    have hlen := hK.len
    have HK : Hid (HldK l now f gi k gs ps) := hK
    have HA : Hid (gs[gi]? = some a) := ha
    by_cases hlt : k < 4
    ·have sk := letS_size k
     have hil := (List.getElem?_eq_some_iff.1 ha).1
     obtain ⟨gg, cc, hge, -⟩ := owns_cell (n := gs.length) (by have := hT.g; rw [List.length_map] at this; exact this) (by omega)
     injection hge with hge _ hcc
     subst hge; subst hcc
     have HTL : Hid (∀ w2, Below wr.heap.size wr w2 -> TwoR wP (.slice (some ⟨gg, 0, none⟩) gs.length cg) (.slice op ps.length cp) (gs.map letS) (ps.map usrS) w2) := fun w2 hb => hT.later hb
     have HLK : Hid (Calls Tryz.prog 16 #[.int .i64 (k : Nat)] wr fun e w' => e = .returned (.string (letS k)) /\ Below wr.heap.size wr w') := HLT.out k wr (by omega)
     have HLU : Hid (∀ w', Below wP.heap.size wP w' -> Calls Tryz.prog 18 #[.slice lo' l.length lc, .string (⟨#[103, 114, 111, 117, 112, 58]⟩ ++ letS a ++ ⟨#[35, 109, 101, 109, 98, 101, 114, 64, 117, 115, 101, 114, 58]⟩ ++ letS k)] w' fun e w'' => e = .returned (.bool (hasL l (textU a k))) /\ w'' = w') := fun w' hb => by rw [textU_eq]; exact HLS.out w' hb (textU a k)
     have HLG : Hid (∀ w', Below wP.heap.size wP w' -> Calls Tryz.prog 18 #[.slice lo' l.length lc, .string (⟨#[103, 114, 111, 117, 112, 58]⟩ ++ letS a ++ ⟨#[35, 109, 101, 109, 98, 101, 114, 64, 103, 114, 111, 117, 112, 58]⟩ ++ letS k ++ ⟨#[35, 109, 101, 109, 98, 101, 114]⟩)] w' fun e w'' => e = .returned (.bool (hasL l (textG a k))) /\ w'' = w') := fun w' hb => by rw [textG_eq]; exact HLS.out w' hb (textG a k)
     have HPP : Hid (∀ w2, TwoR wP (.slice (some ⟨gg, 0, none⟩) gs.length cg) (.slice op ps.length cp) (gs.map letS) (ps.map usrS) w2 -> Calls Tryz.prog 18 #[.slice op ps.length cp, .string (⟨#[117, 115, 101, 114, 58]⟩ ++ letS k)] w2 fun e w' => e = .returned (.bool (hasL (ps.map usrS) (usrS k))) /\ w' = w2) := fun w2 h => hasPpl h hlen.2 k
     have HGG : Hid (∀ w2 (pv : Value) (ps' : List ByteArray), TwoR wP (.slice (some ⟨gg, 0, none⟩) gs.length cg) pv (gs.map letS) ps' w2 -> RndG gg gi cg a k gs w2) := fun w2 pv ps' h => rndG_of h hlen.1 HA.out
     have hbU := hasL_iff (l := l) (s := textU a k)
     have hbG := hasL_iff (l := l) (s := textG a k)
     have hbP := hasP_iff (ps := ps) (fun b hb => ((hK.pin b).1 hb).1) hlt
     have hbQ := hasG_iff (gs := gs) hK.hg.lt hlt
     have HST : Hid (∀ gs' ps', (textU a k ∈ l /\ k ∉ ps /\ ps' = ps ++ [k]) \/ (¬ (textU a k ∈ l /\ k ∉ ps) /\ ps' = ps) -> (textG a k ∈ l /\ k ∉ gs /\ gs' = gs ++ [k]) \/ (¬ (textG a k ∈ l /\ k ∉ gs) /\ gs' = gs) -> gs'[gi]? = some a -> HldK l now f gi (k + 1) gs' ps') := fun gs' ps' h1 h2 _ => hK.step HT.out HA.out hlt h1 h2
     have HGA : Hid ((gs ++ [k])[gi]? = some a) := by show _ = _; rw [List.getElem?_append_left hil]; exact HA.out
     clear hK hT ha HLS HLT HK
     cases hU : hasL l (textU a k)
     ·have EU : Hid (hasL l (textU a k) = false) := hU
      cases hG : hasL l (textG a k)
      ·have EG : Hid (hasL l (textG a k) = false) := hG
       have HK2 : Hid (HldK l now f gi (k + 1) gs ps) := HST.out gs ps (Or.inr ⟨(fun h => by have := EU.out; rw [hbU.2 h.1] at this; cases this), rfl⟩) (Or.inr ⟨(fun h => by have := EG.out; rw [hbG.2 h.1] at this; cases this), rfl⟩) HA.out
       rw [EU.out] at HLU
       generalize hasL (List.map usrS ps) (usrS k) = bP at HPP
       rw [EG.out] at HLG
       have HQL : Hid (∀ w2 (pv : Value) (ps' : List ByteArray), TwoR wP (.slice (some ⟨gg, 0, none⟩) gs.length cg) pv (gs.map letS) ps' w2 -> Calls Tryz.prog 18 #[.slice (some ⟨gg, 0, none⟩) gs.length cg, .string (letS k)] w2 fun e w' => e = .returned (.bool (hasL (gs.map letS) (letS k))) /\ w' = w2) := fun w2 pv ps' h => (HGG.out w2 pv ps' h).hg
       generalize hasL (List.map letS gs) (letS k) = bQ at HQL
       clear hbU hbG hbP hbQ hU hG HST
       go_wp2_with (first | (go_at_call 16; refine HLK.out.mono ?_; rintro e w2 ⟨rfl, hb2⟩; have HT2 : Hid (TwoR wP (.slice (some ⟨gg, 0, none⟩) gs.length cg) (.slice op ps.length cp) (gs.map letS) (ps.map usrS) w2) := HTL.out w2 hb2; have hc2 := (HGG.out w2 _ _ HT2.out).c1; have HU2 : Hid _ := HLU.out w2 HT2.out.below; have HP2 : Hid _ := HPP.out w2 HT2.out; clear hb2 HLK; have HG2 : Hid _ := HLG.out w2 HT2.out.below; have HQ2 : Hid _ := HQL.out w2 _ _ HT2.out) | (go_at_call 18; refine (Calls.mono HU2.out) ?_; rintro e w6 ⟨rfl, hw6⟩; subst w6; clear HU2) | (go_at_call 18; refine (Calls.mono HP2.out) ?_; rintro e w6 ⟨rfl, hw6⟩; subst w6; clear HP2) | (go_at_call 18; refine (Calls.mono HG2.out) ?_; rintro e w6 ⟨rfl, hw6⟩; subst w6; clear HG2) | (go_at_call 18; refine (Calls.mono HQ2.out) ?_; rintro e w6 ⟨rfl, hw6⟩; subst w6; clear HQ2))
       go_roundw
       case rel => exact ⟨k + 1, by go_num, by omega, gs, ps, _, op, cg, cp, rfl, rfl, HA.out, HK2.out, HT2.out⟩
       case measure => simp [intOf]; omega
      ·have EG : Hid (hasL l (textG a k) = true) := hG
       cases hQ : hasL (gs.map letS) (letS k)
       ·have EQ : Hid (hasL (gs.map letS) (letS k) = false) := hQ
        have HK2 : Hid (HldK l now f gi (k + 1) (gs ++ [k]) ps) := HST.out (gs ++ [k]) ps (Or.inr ⟨(fun h => by have := EU.out; rw [hbU.2 h.1] at this; cases this), rfl⟩) (Or.inl ⟨hbG.1 EG.out, (fun h => by have := EQ.out; rw [hbQ.2 h] at this; cases this), rfl⟩) HGA.out
        rw [EU.out] at HLU
        generalize hasL (List.map usrS ps) (usrS k) = bP at HPP
        rw [EG.out] at HLG
        have HQL : Hid (∀ w2 (pv : Value) (ps' : List ByteArray), TwoR wP (.slice (some ⟨gg, 0, none⟩) gs.length cg) pv (gs.map letS) ps' w2 -> Calls Tryz.prog 18 #[.slice (some ⟨gg, 0, none⟩) gs.length cg, .string (letS k)] w2 fun e w' => e = .returned (.bool false) /\ w' = w2) := fun w2 pv ps' h => by have := (HGG.out w2 pv ps' h).hg; rw [EQ.out] at this; exact this
        clear hbU hbG hbP hbQ hU hG HST hQ
        go_wp2_with (first | (go_at_call 16; refine HLK.out.mono ?_; rintro e w2 ⟨rfl, hb2⟩; have HT2 : Hid (TwoR wP (.slice (some ⟨gg, 0, none⟩) gs.length cg) (.slice op ps.length cp) (gs.map letS) (ps.map usrS) w2) := HTL.out w2 hb2; have hc2 := (HGG.out w2 _ _ HT2.out).c1; have HU2 : Hid _ := HLU.out w2 HT2.out.below; have HP2 : Hid _ := HPP.out w2 HT2.out; clear hb2 HLK; have HG2 : Hid _ := HLG.out w2 HT2.out.below; have HQ2 : Hid _ := HQL.out w2 _ _ HT2.out; obtain ⟨o5, c5, w5, hr5, hT5⟩ := HT2.out.addGk k hlen.1; have HT5 : Hid (TwoR wP (.slice o5 (gs ++ [k]).length c5) (.slice op ps.length cp) ((gs ++ [k]).map letS) (ps.map usrS) w5) := hT5; clear hT5) | (go_at_call 18; refine (Calls.mono HU2.out) ?_; rintro e w6 ⟨rfl, hw6⟩; subst w6; clear HU2) | (go_at_call 18; refine (Calls.mono HP2.out) ?_; rintro e w6 ⟨rfl, hw6⟩; subst w6; clear HP2) | (go_at_call 18; refine (Calls.mono HG2.out) ?_; rintro e w6 ⟨rfl, hw6⟩; subst w6; clear HG2) | (go_at_call 18; refine (Calls.mono HQ2.out) ?_; rintro e w6 ⟨rfl, hw6⟩; subst w6; clear HQ2) | (at_builtin; refine wpList_app_run rfl (.tmp 92) (.tmp 94) 28 rfl _ _ _ rfl rfl hr5 ?_; clear hr5))
        go_roundw
        case rel => exact ⟨k + 1, by go_num, by omega, (gs ++ [k]), ps, o5, op, c5, cp, by simp, rfl, HGA.out, HK2.out, by rw [show gs.length + 1 = (gs ++ [k]).length by simp]; exact HT5.out⟩
        case measure => simp [intOf]; omega
       ·have EQ : Hid (hasL (gs.map letS) (letS k) = true) := hQ
        have HK2 : Hid (HldK l now f gi (k + 1) gs ps) := HST.out gs ps (Or.inr ⟨(fun h => by have := EU.out; rw [hbU.2 h.1] at this; cases this), rfl⟩) (Or.inr ⟨fun h => h.2 (hbQ.1 EQ.out), rfl⟩) HA.out
        rw [EU.out] at HLU
        generalize hasL (List.map usrS ps) (usrS k) = bP at HPP
        rw [EG.out] at HLG
        have HQL : Hid (∀ w2 (pv : Value) (ps' : List ByteArray), TwoR wP (.slice (some ⟨gg, 0, none⟩) gs.length cg) pv (gs.map letS) ps' w2 -> Calls Tryz.prog 18 #[.slice (some ⟨gg, 0, none⟩) gs.length cg, .string (letS k)] w2 fun e w' => e = .returned (.bool true) /\ w' = w2) := fun w2 pv ps' h => by have := (HGG.out w2 pv ps' h).hg; rw [EQ.out] at this; exact this
        clear hbU hbG hbP hbQ hU hG HST hQ
        go_wp2_with (first | (go_at_call 16; refine HLK.out.mono ?_; rintro e w2 ⟨rfl, hb2⟩; have HT2 : Hid (TwoR wP (.slice (some ⟨gg, 0, none⟩) gs.length cg) (.slice op ps.length cp) (gs.map letS) (ps.map usrS) w2) := HTL.out w2 hb2; have hc2 := (HGG.out w2 _ _ HT2.out).c1; have HU2 : Hid _ := HLU.out w2 HT2.out.below; have HP2 : Hid _ := HPP.out w2 HT2.out; clear hb2 HLK; have HG2 : Hid _ := HLG.out w2 HT2.out.below; have HQ2 : Hid _ := HQL.out w2 _ _ HT2.out) | (go_at_call 18; refine (Calls.mono HU2.out) ?_; rintro e w6 ⟨rfl, hw6⟩; subst w6; clear HU2) | (go_at_call 18; refine (Calls.mono HP2.out) ?_; rintro e w6 ⟨rfl, hw6⟩; subst w6; clear HP2) | (go_at_call 18; refine (Calls.mono HG2.out) ?_; rintro e w6 ⟨rfl, hw6⟩; subst w6; clear HG2) | (go_at_call 18; refine (Calls.mono HQ2.out) ?_; rintro e w6 ⟨rfl, hw6⟩; subst w6; clear HQ2))
        go_roundw
        case rel => exact ⟨k + 1, by go_num, by omega, gs, ps, _, op, cg, cp, rfl, rfl, HA.out, HK2.out, HT2.out⟩
        case measure => simp [intOf]; omega
     ·have EU : Hid (hasL l (textU a k) = true) := hU
      cases hP : hasL (ps.map usrS) (usrS k)
      ·have EP : Hid (hasL (ps.map usrS) (usrS k) = false) := hP
       cases hG : hasL l (textG a k)
       ·have EG : Hid (hasL l (textG a k) = false) := hG
        have HK2 : Hid (HldK l now f gi (k + 1) gs (ps ++ [k])) := HST.out gs (ps ++ [k]) (Or.inl ⟨hbU.1 EU.out, (fun h => by have := EP.out; rw [hbP.2 h] at this; cases this), rfl⟩) (Or.inr ⟨(fun h => by have := EG.out; rw [hbG.2 h.1] at this; cases this), rfl⟩) HA.out
        rw [EU.out] at HLU
        rw [EP.out] at HPP
        rw [EG.out] at HLG
        have HQL : Hid (∀ w2 (pv : Value) (ps' : List ByteArray), TwoR wP (.slice (some ⟨gg, 0, none⟩) gs.length cg) pv (gs.map letS) ps' w2 -> Calls Tryz.prog 18 #[.slice (some ⟨gg, 0, none⟩) gs.length cg, .string (letS k)] w2 fun e w' => e = .returned (.bool (hasL (gs.map letS) (letS k))) /\ w' = w2) := fun w2 pv ps' h => (HGG.out w2 pv ps' h).hg
        generalize hasL (List.map letS gs) (letS k) = bQ at HQL
        clear hbU hbG hbP hbQ hU hG HST hP
        go_wp2_with (first | (go_at_call 16; refine HLK.out.mono ?_; rintro e w2 ⟨rfl, hb2⟩; have HT2 : Hid (TwoR wP (.slice (some ⟨gg, 0, none⟩) gs.length cg) (.slice op ps.length cp) (gs.map letS) (ps.map usrS) w2) := HTL.out w2 hb2; have hc2 := (HGG.out w2 _ _ HT2.out).c1; have HU2 : Hid _ := HLU.out w2 HT2.out.below; have HP2 : Hid _ := HPP.out w2 HT2.out; clear hb2 HLK; obtain ⟨o4, c4, w4, hr4, hT4⟩ := HT2.out.addPk k hlen.2; have HT4 : Hid (TwoR wP (.slice (some ⟨gg, 0, none⟩) gs.length cg) (.slice o4 (ps ++ [k]).length c4) (gs.map letS) ((ps ++ [k]).map usrS) w4) := hT4; clear hT4; have hc4 := (HGG.out w4 _ _ HT4.out).c1; have HG2 : Hid _ := HLG.out w4 HT4.out.below; have HQ2 : Hid _ := HQL.out w4 _ _ HT4.out) | (go_at_call 18; refine (Calls.mono HU2.out) ?_; rintro e w6 ⟨rfl, hw6⟩; subst w6; clear HU2) | (go_at_call 18; refine (Calls.mono HP2.out) ?_; rintro e w6 ⟨rfl, hw6⟩; subst w6; clear HP2) | (at_builtin; refine wpList_app_run rfl (.tmp 68) (.tmp 71) 28 rfl _ _ _ rfl rfl hr4 ?_; clear hr4) | (go_at_call 18; refine (Calls.mono HG2.out) ?_; rintro e w6 ⟨rfl, hw6⟩; subst w6; clear HG2) | (go_at_call 18; refine (Calls.mono HQ2.out) ?_; rintro e w6 ⟨rfl, hw6⟩; subst w6; clear HQ2))
        go_roundw
        case rel => exact ⟨k + 1, by go_num, by omega, gs, (ps ++ [k]), _, o4, cg, c4, rfl, by simp, HA.out, HK2.out, by rw [show ps.length + 1 = (ps ++ [k]).length by simp]; exact HT4.out⟩
        case measure => simp [intOf]; omega
       ·have EG : Hid (hasL l (textG a k) = true) := hG
        cases hQ : hasL (gs.map letS) (letS k)
        ·have EQ : Hid (hasL (gs.map letS) (letS k) = false) := hQ
         have HK2 : Hid (HldK l now f gi (k + 1) (gs ++ [k]) (ps ++ [k])) := HST.out (gs ++ [k]) (ps ++ [k]) (Or.inl ⟨hbU.1 EU.out, (fun h => by have := EP.out; rw [hbP.2 h] at this; cases this), rfl⟩) (Or.inl ⟨hbG.1 EG.out, (fun h => by have := EQ.out; rw [hbQ.2 h] at this; cases this), rfl⟩) HGA.out
         rw [EU.out] at HLU
         rw [EP.out] at HPP
         rw [EG.out] at HLG
         have HQL : Hid (∀ w2 (pv : Value) (ps' : List ByteArray), TwoR wP (.slice (some ⟨gg, 0, none⟩) gs.length cg) pv (gs.map letS) ps' w2 -> Calls Tryz.prog 18 #[.slice (some ⟨gg, 0, none⟩) gs.length cg, .string (letS k)] w2 fun e w' => e = .returned (.bool false) /\ w' = w2) := fun w2 pv ps' h => by have := (HGG.out w2 pv ps' h).hg; rw [EQ.out] at this; exact this
         clear hbU hbG hbP hbQ hU hG HST hP hQ
         go_wp2_with (first | (go_at_call 16; refine HLK.out.mono ?_; rintro e w2 ⟨rfl, hb2⟩; have HT2 : Hid (TwoR wP (.slice (some ⟨gg, 0, none⟩) gs.length cg) (.slice op ps.length cp) (gs.map letS) (ps.map usrS) w2) := HTL.out w2 hb2; have hc2 := (HGG.out w2 _ _ HT2.out).c1; have HU2 : Hid _ := HLU.out w2 HT2.out.below; have HP2 : Hid _ := HPP.out w2 HT2.out; clear hb2 HLK; obtain ⟨o4, c4, w4, hr4, hT4⟩ := HT2.out.addPk k hlen.2; have HT4 : Hid (TwoR wP (.slice (some ⟨gg, 0, none⟩) gs.length cg) (.slice o4 (ps ++ [k]).length c4) (gs.map letS) ((ps ++ [k]).map usrS) w4) := hT4; clear hT4; have hc4 := (HGG.out w4 _ _ HT4.out).c1; have HG2 : Hid _ := HLG.out w4 HT4.out.below; have HQ2 : Hid _ := HQL.out w4 _ _ HT4.out; obtain ⟨o5, c5, w5, hr5, hT5⟩ := HT4.out.addGk k hlen.1; have HT5 : Hid (TwoR wP (.slice o5 (gs ++ [k]).length c5) (.slice o4 (ps ++ [k]).length c4) ((gs ++ [k]).map letS) ((ps ++ [k]).map usrS) w5) := hT5; clear hT5) | (go_at_call 18; refine (Calls.mono HU2.out) ?_; rintro e w6 ⟨rfl, hw6⟩; subst w6; clear HU2) | (go_at_call 18; refine (Calls.mono HP2.out) ?_; rintro e w6 ⟨rfl, hw6⟩; subst w6; clear HP2) | (at_builtin; refine wpList_app_run rfl (.tmp 68) (.tmp 71) 28 rfl _ _ _ rfl rfl hr4 ?_; clear hr4) | (go_at_call 18; refine (Calls.mono HG2.out) ?_; rintro e w6 ⟨rfl, hw6⟩; subst w6; clear HG2) | (go_at_call 18; refine (Calls.mono HQ2.out) ?_; rintro e w6 ⟨rfl, hw6⟩; subst w6; clear HQ2) | (at_builtin; refine wpList_app_run rfl (.tmp 92) (.tmp 94) 28 rfl _ _ _ rfl rfl hr5 ?_; clear hr5))
         go_roundw
         case rel => exact ⟨k + 1, by go_num, by omega, (gs ++ [k]), (ps ++ [k]), o5, o4, c5, c4, by simp, by simp, HGA.out, HK2.out, by rw [show gs.length + 1 = (gs ++ [k]).length by simp, show ps.length + 1 = (ps ++ [k]).length by simp]; exact HT5.out⟩
         case measure => simp [intOf]; omega
        ·have EQ : Hid (hasL (gs.map letS) (letS k) = true) := hQ
         have HK2 : Hid (HldK l now f gi (k + 1) gs (ps ++ [k])) := HST.out gs (ps ++ [k]) (Or.inl ⟨hbU.1 EU.out, (fun h => by have := EP.out; rw [hbP.2 h] at this; cases this), rfl⟩) (Or.inr ⟨fun h => h.2 (hbQ.1 EQ.out), rfl⟩) HA.out
         rw [EU.out] at HLU
         rw [EP.out] at HPP
         rw [EG.out] at HLG
         have HQL : Hid (∀ w2 (pv : Value) (ps' : List ByteArray), TwoR wP (.slice (some ⟨gg, 0, none⟩) gs.length cg) pv (gs.map letS) ps' w2 -> Calls Tryz.prog 18 #[.slice (some ⟨gg, 0, none⟩) gs.length cg, .string (letS k)] w2 fun e w' => e = .returned (.bool true) /\ w' = w2) := fun w2 pv ps' h => by have := (HGG.out w2 pv ps' h).hg; rw [EQ.out] at this; exact this
         clear hbU hbG hbP hbQ hU hG HST hP hQ
         go_wp2_with (first | (go_at_call 16; refine HLK.out.mono ?_; rintro e w2 ⟨rfl, hb2⟩; have HT2 : Hid (TwoR wP (.slice (some ⟨gg, 0, none⟩) gs.length cg) (.slice op ps.length cp) (gs.map letS) (ps.map usrS) w2) := HTL.out w2 hb2; have hc2 := (HGG.out w2 _ _ HT2.out).c1; have HU2 : Hid _ := HLU.out w2 HT2.out.below; have HP2 : Hid _ := HPP.out w2 HT2.out; clear hb2 HLK; obtain ⟨o4, c4, w4, hr4, hT4⟩ := HT2.out.addPk k hlen.2; have HT4 : Hid (TwoR wP (.slice (some ⟨gg, 0, none⟩) gs.length cg) (.slice o4 (ps ++ [k]).length c4) (gs.map letS) ((ps ++ [k]).map usrS) w4) := hT4; clear hT4; have hc4 := (HGG.out w4 _ _ HT4.out).c1; have HG2 : Hid _ := HLG.out w4 HT4.out.below; have HQ2 : Hid _ := HQL.out w4 _ _ HT4.out) | (go_at_call 18; refine (Calls.mono HU2.out) ?_; rintro e w6 ⟨rfl, hw6⟩; subst w6; clear HU2) | (go_at_call 18; refine (Calls.mono HP2.out) ?_; rintro e w6 ⟨rfl, hw6⟩; subst w6; clear HP2) | (at_builtin; refine wpList_app_run rfl (.tmp 68) (.tmp 71) 28 rfl _ _ _ rfl rfl hr4 ?_; clear hr4) | (go_at_call 18; refine (Calls.mono HG2.out) ?_; rintro e w6 ⟨rfl, hw6⟩; subst w6; clear HG2) | (go_at_call 18; refine (Calls.mono HQ2.out) ?_; rintro e w6 ⟨rfl, hw6⟩; subst w6; clear HQ2))
         go_roundw
         case rel => exact ⟨k + 1, by go_num, by omega, gs, (ps ++ [k]), _, o4, cg, c4, rfl, by simp, HA.out, HK2.out, by rw [show ps.length + 1 = (ps ++ [k]).length by simp]; exact HT4.out⟩
         case measure => simp [intOf]; omega
      ·have EP : Hid (hasL (ps.map usrS) (usrS k) = true) := hP
       cases hG : hasL l (textG a k)
       ·have EG : Hid (hasL l (textG a k) = false) := hG
        have HK2 : Hid (HldK l now f gi (k + 1) gs ps) := HST.out gs ps (Or.inr ⟨fun h => h.2 (hbP.1 EP.out), rfl⟩) (Or.inr ⟨(fun h => by have := EG.out; rw [hbG.2 h.1] at this; cases this), rfl⟩) HA.out
        rw [EU.out] at HLU
        rw [EP.out] at HPP
        rw [EG.out] at HLG
        have HQL : Hid (∀ w2 (pv : Value) (ps' : List ByteArray), TwoR wP (.slice (some ⟨gg, 0, none⟩) gs.length cg) pv (gs.map letS) ps' w2 -> Calls Tryz.prog 18 #[.slice (some ⟨gg, 0, none⟩) gs.length cg, .string (letS k)] w2 fun e w' => e = .returned (.bool (hasL (gs.map letS) (letS k))) /\ w' = w2) := fun w2 pv ps' h => (HGG.out w2 pv ps' h).hg
        generalize hasL (List.map letS gs) (letS k) = bQ at HQL
        clear hbU hbG hbP hbQ hU hG HST hP
        go_wp2_with (first | (go_at_call 16; refine HLK.out.mono ?_; rintro e w2 ⟨rfl, hb2⟩; have HT2 : Hid (TwoR wP (.slice (some ⟨gg, 0, none⟩) gs.length cg) (.slice op ps.length cp) (gs.map letS) (ps.map usrS) w2) := HTL.out w2 hb2; have hc2 := (HGG.out w2 _ _ HT2.out).c1; have HU2 : Hid _ := HLU.out w2 HT2.out.below; have HP2 : Hid _ := HPP.out w2 HT2.out; clear hb2 HLK; have HG2 : Hid _ := HLG.out w2 HT2.out.below; have HQ2 : Hid _ := HQL.out w2 _ _ HT2.out) | (go_at_call 18; refine (Calls.mono HU2.out) ?_; rintro e w6 ⟨rfl, hw6⟩; subst w6; clear HU2) | (go_at_call 18; refine (Calls.mono HP2.out) ?_; rintro e w6 ⟨rfl, hw6⟩; subst w6; clear HP2) | (go_at_call 18; refine (Calls.mono HG2.out) ?_; rintro e w6 ⟨rfl, hw6⟩; subst w6; clear HG2) | (go_at_call 18; refine (Calls.mono HQ2.out) ?_; rintro e w6 ⟨rfl, hw6⟩; subst w6; clear HQ2))
        go_roundw
        case rel => exact ⟨k + 1, by go_num, by omega, gs, ps, _, op, cg, cp, rfl, rfl, HA.out, HK2.out, HT2.out⟩
        case measure => simp [intOf]; omega
       ·have EG : Hid (hasL l (textG a k) = true) := hG
        cases hQ : hasL (gs.map letS) (letS k)
        ·have EQ : Hid (hasL (gs.map letS) (letS k) = false) := hQ
         have HK2 : Hid (HldK l now f gi (k + 1) (gs ++ [k]) ps) := HST.out (gs ++ [k]) ps (Or.inr ⟨fun h => h.2 (hbP.1 EP.out), rfl⟩) (Or.inl ⟨hbG.1 EG.out, (fun h => by have := EQ.out; rw [hbQ.2 h] at this; cases this), rfl⟩) HGA.out
         rw [EU.out] at HLU
         rw [EP.out] at HPP
         rw [EG.out] at HLG
         have HQL : Hid (∀ w2 (pv : Value) (ps' : List ByteArray), TwoR wP (.slice (some ⟨gg, 0, none⟩) gs.length cg) pv (gs.map letS) ps' w2 -> Calls Tryz.prog 18 #[.slice (some ⟨gg, 0, none⟩) gs.length cg, .string (letS k)] w2 fun e w' => e = .returned (.bool false) /\ w' = w2) := fun w2 pv ps' h => by have := (HGG.out w2 pv ps' h).hg; rw [EQ.out] at this; exact this
         clear hbU hbG hbP hbQ hU hG HST hP hQ
         go_wp2_with (first | (go_at_call 16; refine HLK.out.mono ?_; rintro e w2 ⟨rfl, hb2⟩; have HT2 : Hid (TwoR wP (.slice (some ⟨gg, 0, none⟩) gs.length cg) (.slice op ps.length cp) (gs.map letS) (ps.map usrS) w2) := HTL.out w2 hb2; have hc2 := (HGG.out w2 _ _ HT2.out).c1; have HU2 : Hid _ := HLU.out w2 HT2.out.below; have HP2 : Hid _ := HPP.out w2 HT2.out; clear hb2 HLK; have HG2 : Hid _ := HLG.out w2 HT2.out.below; have HQ2 : Hid _ := HQL.out w2 _ _ HT2.out; obtain ⟨o5, c5, w5, hr5, hT5⟩ := HT2.out.addGk k hlen.1; have HT5 : Hid (TwoR wP (.slice o5 (gs ++ [k]).length c5) (.slice op ps.length cp) ((gs ++ [k]).map letS) (ps.map usrS) w5) := hT5; clear hT5) | (go_at_call 18; refine (Calls.mono HU2.out) ?_; rintro e w6 ⟨rfl, hw6⟩; subst w6; clear HU2) | (go_at_call 18; refine (Calls.mono HP2.out) ?_; rintro e w6 ⟨rfl, hw6⟩; subst w6; clear HP2) | (go_at_call 18; refine (Calls.mono HG2.out) ?_; rintro e w6 ⟨rfl, hw6⟩; subst w6; clear HG2) | (go_at_call 18; refine (Calls.mono HQ2.out) ?_; rintro e w6 ⟨rfl, hw6⟩; subst w6; clear HQ2) | (at_builtin; refine wpList_app_run rfl (.tmp 92) (.tmp 94) 28 rfl _ _ _ rfl rfl hr5 ?_; clear hr5))
         go_roundw
         case rel => exact ⟨k + 1, by go_num, by omega, (gs ++ [k]), ps, o5, op, c5, cp, by simp, rfl, HGA.out, HK2.out, by rw [show gs.length + 1 = (gs ++ [k]).length by simp]; exact HT5.out⟩
         case measure => simp [intOf]; omega
        ·have EQ : Hid (hasL (gs.map letS) (letS k) = true) := hQ
         have HK2 : Hid (HldK l now f gi (k + 1) gs ps) := HST.out gs ps (Or.inr ⟨fun h => h.2 (hbP.1 EP.out), rfl⟩) (Or.inr ⟨fun h => h.2 (hbQ.1 EQ.out), rfl⟩) HA.out
         rw [EU.out] at HLU
         rw [EP.out] at HPP
         rw [EG.out] at HLG
         have HQL : Hid (∀ w2 (pv : Value) (ps' : List ByteArray), TwoR wP (.slice (some ⟨gg, 0, none⟩) gs.length cg) pv (gs.map letS) ps' w2 -> Calls Tryz.prog 18 #[.slice (some ⟨gg, 0, none⟩) gs.length cg, .string (letS k)] w2 fun e w' => e = .returned (.bool true) /\ w' = w2) := fun w2 pv ps' h => by have := (HGG.out w2 pv ps' h).hg; rw [EQ.out] at this; exact this
         clear hbU hbG hbP hbQ hU hG HST hP hQ
         go_wp2_with (first | (go_at_call 16; refine HLK.out.mono ?_; rintro e w2 ⟨rfl, hb2⟩; have HT2 : Hid (TwoR wP (.slice (some ⟨gg, 0, none⟩) gs.length cg) (.slice op ps.length cp) (gs.map letS) (ps.map usrS) w2) := HTL.out w2 hb2; have hc2 := (HGG.out w2 _ _ HT2.out).c1; have HU2 : Hid _ := HLU.out w2 HT2.out.below; have HP2 : Hid _ := HPP.out w2 HT2.out; clear hb2 HLK; have HG2 : Hid _ := HLG.out w2 HT2.out.below; have HQ2 : Hid _ := HQL.out w2 _ _ HT2.out) | (go_at_call 18; refine (Calls.mono HU2.out) ?_; rintro e w6 ⟨rfl, hw6⟩; subst w6; clear HU2) | (go_at_call 18; refine (Calls.mono HP2.out) ?_; rintro e w6 ⟨rfl, hw6⟩; subst w6; clear HP2) | (go_at_call 18; refine (Calls.mono HG2.out) ?_; rintro e w6 ⟨rfl, hw6⟩; subst w6; clear HG2) | (go_at_call 18; refine (Calls.mono HQ2.out) ?_; rintro e w6 ⟨rfl, hw6⟩; subst w6; clear HQ2))
         go_roundw
         case rel => exact ⟨k + 1, by go_num, by omega, gs, ps, _, op, cg, cp, rfl, rfl, HA.out, HK2.out, HT2.out⟩
         case measure => simp [intOf]; omega
    ·obtain rfl : k = 4 := by omega
     have HN2 : Hid (HldK l now f (gi + 1) 0 gs ps) := HK.out.next
     have hil := (List.getElem?_eq_some_iff.1 ha).1
     have HT2 : Hid (TwoR wP (.slice og gs.length cg) (.slice op ps.length cp) (gs.map letS) (ps.map usrS) wr) := hT
     clear hK hT HK ha HA
     go_wp2
     go_roundw
     case rel => exact ⟨gi + 1, gs, ps, og, op, cg, cp, rfl, rfl, by go_num, by omega, HN2.out, HT2.out⟩
     case measure => simp [intOf]; omega
  ·obtain rfl : gi = gs.length := by omega
   have HWH : Hid (Calls Tryz.prog 19 #[.pointer (some ⟨gb, 0, none⟩), .string (⟨#[103, 114, 111, 117, 112, 58]⟩ ++ letS f ++ ⟨#[35, 109, 101, 109, 98, 101, 114]⟩)] wr fun e w' => ∃ o c zs, e = .returned (.tuple #[.slice o zs.length c, .bool true]) /\ zs.length = ps.length /\ zs.length <= 50 /\ Hid (∀ z ∈ zs, hasL (ps.map usrS) z = true) /\ Hid (StrsAt w' (.slice o zs.length c) zs) /\ Hid (Below wr.heap.size wr w')) := by
    refine (held_ask_who HN HW (HKG.out wr HTW.out.below) f).mono ?_
    rintro e w' ⟨o, c, zs, rfl, hb, hso, hzl, hst, hz⟩
    obtain ⟨h1, h2⟩ := held_who HT.out HK.out hso hz
    exact ⟨o, c, zs, rfl, h1, hzl, h2, hst, hb⟩
   have HCO : Hid (∀ w', Below wr.heap.size wr w' -> Calls Tryz.prog 20 #[.pointer (some ⟨gb, 0, none⟩), .string (⟨#[103, 114, 111, 117, 112, 58]⟩ ++ letS f ++ ⟨#[35, 109, 101, 109, 98, 101, 114]⟩)] w' fun e w'' => e = .returned (.tuple #[.int .i64 (gs.length : Nat), .int .i64 0]) /\ Below w.heap.size w w'') := by
    intro w' hb
    have hbP : Below wP.heap.size wP w' := HTW.out.below.trans (hb.mono HTW.out.below.size)
    refine (held_ask_cost HN HW (HKG.out w' hbP) f).mono ?_
    rintro e w'' ⟨met, rfl, hb2, hn, hm⟩
    rw [held_cost HT.out HK.out hn hm]
    have h0 : Below w.heap.size w w' := HBW.out.trans (hbP.mono HBW.out.size)
    exact ⟨rfl, h0.trans (hb2.mono h0.size)⟩
   have HPL : Hid (StrsAt wr (.slice op ps.length cp) (ps.map usrS)) := owns_strs (by have := HTW.out.p; rw [List.length_map] at this ⊢; exact this)
   clear HLS HLT HK HTW HKG HN HW
   go_wp2_with (go_at_call 19; refine HWH.out.mono ?_; rintro e w5 ⟨o5, c5, zs, rfl, hzp, hz50, HZ, HS5, HB5⟩)
   go_loopw [17] (fun i w6 => ∃ (k : Nat), i = .int .i64 k /\ k <= zs.length /\ w6 = w5) (fun i _ => zs.length - (intOf i).toNat)
   case atStart => exact ⟨0, rfl, Nat.zero_le _, rfl⟩
   case round =>
    obtain ⟨k, rfl, hkl, rfl⟩ := hrel
    by_cases hlt2 : k < zs.length
    ·obtain ⟨z, hz⟩ : ∃ z, zs[k]? = some z := ⟨_, List.getElem?_eq_getElem hlt2⟩
     obtain ⟨gx, fx, hfx, hzc⟩ : ∃ gx fx, o5 = some ⟨gx, fx, none⟩ /\ wr.cell? ⟨gx, fx + k, none⟩ = some (.string z) := by
      rcases HS5.out with ⟨-, e⟩ | ⟨b, off, cap, e, hcc⟩
      ·rw [e] at hlt2; simp at hlt2
      ·injection e with e _ _
       exact ⟨b, off, e, hcc k z hz⟩
     subst hfx
     have HHZ : Hid (Calls Tryz.prog 18 #[.slice op ps.length cp, .string z] wr fun e w' => e = .returned (.bool true) /\ w' = wr) := by
      have := kHas_any (.slice op ps.length cp) (ps.map usrS) z wr (strs_below HPL.out HB5.out) (by rw [List.length_map]; unfold maxLen; omega)
      rw [HZ.out z (List.mem_of_getElem? hz)] at this
      exact this
     clear hz
     go_wp2_with (go_at_call 18; refine HHZ.out.mono ?_; rintro e w7 ⟨rfl, hw7⟩; subst w7)
     go_roundw
     case rel => exact ⟨k + 1, by go_num, by omega, trivial⟩
     case measure => simp [intOf]; omega
    ·obtain rfl : k = zs.length := by omega
     have HC5 : Hid (Calls Tryz.prog 20 #[.pointer (some ⟨gb, 0, none⟩), .string (⟨#[103, 114, 111, 117, 112, 58]⟩ ++ letS f ++ ⟨#[35, 109, 101, 109, 98, 101, 114]⟩)] wr fun e w'' => e = .returned (.tuple #[.int .i64 (gs.length : Nat), .int .i64 0]) /\ Below w.heap.size w w'') := HCO.out wr HB5.out
     clear HCO
     go_wp2_with (go_at_call 20; refine HC5.out.mono ?_; rintro e w8 ⟨rfl, hb8⟩)
     go_ret
     exact ⟨rfl, hb8⟩
end Go.Proofs.YtalmoiogbdahcaaGreat
