import Derived.Test.YtalmoiogbdahcaaGreatYRefD
import Derived.Test.YtalmoiogbdahcaaGreatYRefE
namespace Go.Proofs.YtalmoiogbdahcaaGreat
set_option maxRecDepth 100000
set_option maxHeartbeats 8000000
open Go.RowKit
structure Rg where
 rulesV : Value
 nowV : Value
 version : Int
 clock : Int
 closed : Bool
 queue : Int
 reqV : Value
 wrkV : Value
def Rg.cells (g : Rg) : List Value := [g.rulesV, g.nowV, .int .i64 g.version, .int .i64 g.clock, .bool g.closed, .int .i64 g.queue, g.reqV, g.wrkV]
def RgAt (w : World) (b : Nat) (g : Rg) : Prop := w.heap[b]? = some (.cells g.cells.toArray 124 (0, 0))
def RulesAt (w : World) (v : Value) (rs : List (ByteArray × ByteArray)) : Prop :=
 (v = .slice none 0 0 /\ rs = []) \/ ∃ b cap, v = .slice (some ⟨b, 0, none⟩) rs.length cap /\ ∀ i x, rs[i]? = some x -> w.cell? ⟨b, i * 2, none⟩ = some (.string x.1) /\ w.cell? ⟨b, i * 2 + 1, none⟩ = some (.string x.2)
def kindOf (node : ByteArray) : ByteArray := cutA (cutA node 35) 58
def relOf (node : ByteArray) : ByteArray := cutZ node 35
def ofS (node : ByteArray) : ByteArray := kindOf node ++ { data := #[35] } ++ relOf node
def ruleL (rs : List (ByteArray × ByteArray)) (node : ByteArray) : ByteArray := match rs.find? (fun x => x.1.toList == (ofS node).toList) with | some x => x.2 | none => { data := #[] }
theorem cut_sum (s : ByteArray) (c : Int) : (cutA s c).size + (cutZ s c).size <= s.size := by
 unfold cutA cutZ
 split
 ·rename_i i hi
  have hl : i < s.data.toList.length := by
   unfold idxB at hi
   rw [List.findIdx?_eq_some_iff_getElem] at hi
   exact hi.1
  simp at hl ⊢; omega
 ·simp
theorem rule_any (b : Nat) (g : Rg) (rs : List (ByteArray × ByteArray)) (node : ByteArray) (w : World) (hg : RgAt w b g) (hr : RulesAt w g.rulesV rs) (hl : rs.length <= 12) (hn : node.size <= 1125899906842624) :
  Calls Tryz.prog 72 #[.pointer (some ⟨b, 0, none⟩), .string node] w fun e w' => e = .returned (.string (ruleL rs node)) /\ ∃ n, w' = w.drewN n := by
 obtain ⟨A1, Z1, O1, hA1, hZ1, hO1, hs1, hs2, hc1⟩ := cut_gen node 35 (by unfold maxLen; omega)
 obtain ⟨A2, Z2, O2, hA2, hZ2, hO2, hs3, hs4, hc2⟩ := cut_gen A1 58 hs1
 have HO : Hid (ofS node = A2 ++ { data := #[35] } ++ Z1) := by
  show _ = _
  unfold ofS kindOf relOf; rw [hA1, hA2, hZ1]
 have hsum : A2.size + 1 + Z1.size <= 1125899906842625 := by
  have q1 := cut_sum node 35
  have q2 := cut_sum A1 58
  rw [hA1, hZ1] at q1
  rw [hA2, hZ2] at q2
  omega
 clear hA1 hZ1 hO1 hA2 hZ2 hO2 hs1 hs2 hs3 hs4
 have h0 : w.cell? ⟨b, 0, none⟩ = some g.rulesV := row_cell hg rfl
 obtain ⟨rv, hrv⟩ : ∃ rv, g.rulesV = rv := ⟨_, rfl⟩
 rw [hrv] at h0 hr
 clear hrv hg
 rcases hr with ⟨rfl, rfl⟩ | ⟨rb, cap, rfl, hcells⟩
 ·go_enter Tryz.func72, Tryz.ntmps72
  go_wp2_with (first | (go_at_call 117; refine (hc1 _).mono ?_; clear hc1; rintro e w' ⟨rfl, ⟨n1, rfl⟩⟩) | (go_at_call 117; refine (hc2 _).mono ?_; rintro e w' ⟨rfl, ⟨n2, rfl⟩⟩))
  refine wp_loop_rounds 1 ?_
  rw [rounds_succ]
  go_wp2
  go_ret
  exact ⟨rfl, ⟨_, rfl⟩⟩
 ·obtain ⟨n, hnn⟩ : ∃ n, rs.length = n := ⟨_, rfl⟩
  have HX : Hid (rs.length = n) := hnn
  rw [hnn] at hl h0
  clear hnn
  go_enter Tryz.func72, Tryz.ntmps72
  go_wp2_with (first | (go_at_call 117; refine (hc1 _).mono ?_; clear hc1; rintro e w' ⟨rfl, ⟨n1, rfl⟩⟩) | (go_at_call 117; refine (hc2 _).mono ?_; rintro e w' ⟨rfl, ⟨n2, rfl⟩⟩))
  go_loop [11] (fun i => ∃ k : Nat, k <= n /\ i = .int .i64 k /\ (rs.take k).find? (fun x => x.1.toList == (A2 ++ { data := #[35] } ++ Z1).toList) = none) (fun i => n - (intOf i).toNat)
  case atStart => exact ⟨0, Nat.zero_le _, rfl, rfl⟩
  case round =>
   obtain ⟨k, hk, rfl, hf⟩ := hrel
   have HF : Hid ((rs.take k).find? (fun x => x.1.toList == (A2 ++ { data := #[35] } ++ Z1).toList) = none) := hf
   clear hf
   by_cases hlt : k < n
   ·have hkx : k < rs.length := by have := HX.out; omega
    obtain ⟨x, hx⟩ : ∃ x, rs[k] = x := ⟨_, rfl⟩
    obtain ⟨g1, g2⟩ := hcells k x (by rw [List.getElem?_eq_getElem hkx, hx])
    have HT : Hid (rs = rs.take k ++ x :: rs.drop (k + 1)) := by
     show _ = _
     have := (List.take_append_drop k rs).symm
     rw [List.drop_eq_getElem_cons hkx, hx] at this; exact this
    have HT2 : Hid (rs.take (k + 1) = rs.take k ++ [x]) := by
     show _ = _
     rw [List.take_succ_eq_append_getElem hkx, hx]
    clear hkx hx hcells
    obtain ⟨xo, xw⟩ := x
    dsimp only at g1 g2
    cases hq : (xo.toList == (A2 ++ { data := #[35] } ++ Z1).toList)
    ·go_wp2
     go_round
     case rel => exact ⟨k + 1, by omega, by go_num, by rw [HT2.out, List.find?_append, HF.out]; simp [hq]⟩
     case measure => simp [intOf]; omega
    ·have HR : Hid (ruleL rs node = xw) := by
      show _ = _
      unfold ruleL
      rw [HO.out, HT.out, List.find?_append, HF.out]
      simp [hq]
     go_wp2
     go_ret
     exact ⟨by rw [HR.out]; rfl, ⟨_, rfl⟩⟩
   ·obtain rfl : k = n := by omega
    have HR : Hid (ruleL rs node = { data := #[] }) := by
     show _ = _
     have := HF.out
     rw [List.take_of_length_le (by have := HX.out; omega)] at this
     unfold ruleL
     rw [HO.out, this]
    clear hcells
    go_wp2
    go_ret
    exact ⟨by rw [HR.out]; rfl, ⟨_, rfl⟩⟩
end Go.Proofs.YtalmoiogbdahcaaGreat
