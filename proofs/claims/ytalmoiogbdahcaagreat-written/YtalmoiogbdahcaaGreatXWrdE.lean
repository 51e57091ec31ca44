import Derived.Test.YtalmoiogbdahcaaGreatXWrdC

/- Which texts the program takes for tuples, and what of them. -/
namespace Go.Proofs.YtalmoiogbdahcaaGreat
open Go.RowKit

def rd0 (s : ByteArray) : Rd := ⟨s, 0, false⟩
def tupQ (s : ByteArray) : Rd := ((rd0 s).node.must { data := #[64] }).subject
def tupOk (s : ByteArray) : Bool := (tupQ s).ended
def tupNode (s : ByteArray) : Nd := nodeOf (rd0 s)
def tupSubj (s : ByteArray) : Nd := subjectOf ((rd0 s).node.must { data := #[64] })
def tupVal (s : ByteArray) : Value :=
  if tupOk s then .agg #[.string (tupNode s).kind, .string (tupNode s).name, .string (tupNode s).rel, .string (tupSubj s).kind, .string (tupSubj s).name, .string (tupSubj s).rel]
  else .agg #[.string { data := #[] }, .string { data := #[] }, .string { data := #[] }, .string { data := #[] }, .string { data := #[] }, .string { data := #[] }]
theorem rd_lit (w : World) (s : ByteArray) : RdAt (w.alloc (.cells #[.string s, .int .i64 0, .bool false] 141)) w.heap.size (rd0 s) := by
  show (w.heap.push _)[w.heap.size]? = _
  simp [rd0]
theorem below_kept {B r : Nat} {w0 w w' : World} (h : Below B w0 w) (hk : w.grownBy w' (some r)) (hB : B ≤ w.heap.size) (hr : B ≤ r) : Below B w0 w' :=
  h.grown hk hB (fun k e => by cases e; exact hr)

set_option maxRecDepth 100000 in
set_option maxHeartbeats 400000 in
theorem readTuple_any (s : ByteArray) (w : World) (hs : s.size ≤ maxLen) :
    Calls Tryz.prog 98 #[.string s] w fun e w' => e = .returned (.tuple #[tupVal s, .bool (tupOk s)]) ∧ Below w.heap.size w w' := by
  have s1 := node_size (rd0 s)
  have s2 := must_size (rd0 s).node { data := #[64] }
  have S0 : Hid ((rd0 s).rest.size ≤ maxLen) := hs
  have S2 : Hid (((rd0 s).node.must { data := #[64] }).rest.size ≤ maxLen) := by show _ ≤ _; have : (rd0 s).rest.size = s.size := rfl; omega
  clear s1 s2
  have HV : Hid (tupVal s = if tupOk s then .agg #[.string (tupNode s).kind, .string (tupNode s).name, .string (tupNode s).rel, .string (tupSubj s).kind, .string (tupSubj s).name, .string (tupSubj s).rel] else .agg #[.string { data := #[] }, .string { data := #[] }, .string { data := #[] }, .string { data := #[] }, .string { data := #[] }, .string { data := #[] }]) := rfl
  have hsu : ∀ r w, RdAt w r ((rd0 s).node.must { data := #[64] }) → Calls Tryz.prog 153 #[.pointer (some ⟨r, 0, none⟩)] w fun e w' => e = .returned (.agg #[.string (tupSubj s).kind, .string (tupSubj s).name, .string (tupSubj s).rel]) ∧ RdAt w' r (tupQ s) ∧ w.grownBy w' (some r) := fun r w h => subjectRd_any r ((rd0 s).node.must { data := #[64] }) w h S2.out
  have hno : ∀ r w, RdAt w r (rd0 s) → Calls Tryz.prog 88 #[.pointer (some ⟨r, 0, none⟩)] w fun e w' => e = .returned (.agg #[.string (tupNode s).kind, .string (tupNode s).name, .string (tupNode s).rel]) ∧ RdAt w' r (rd0 s).node ∧ w.grownBy w' (some r) := fun r w h => nodeRd_any r (rd0 s) w h S0.out
  have hen := fun r w h => ended_any r (tupQ s) w h
  change ∀ r w, RdAt w r (tupQ s) → Calls Tryz.prog 91 #[.pointer (some ⟨r, 0, none⟩)] w fun e w' => e = .returned (.bool (tupOk s)) ∧ w' = w at hen
  generalize (tupNode s).kind = a1 at *
  generalize (tupNode s).name = a2 at *
  generalize (tupNode s).rel = a3 at *
  generalize (tupSubj s).kind = b1 at *
  generalize (tupSubj s).name = b2 at *
  generalize (tupSubj s).rel = b3 at *
  generalize tupOk s = ok at *
  have hrd := fun o => rd_lit (w.alloc o) s
  simp only [World.size_alloc] at hrd
  cases ok
  all_goals
    go_enter Tryz.func98, Tryz.ntmps98
    go_wp2_with (first | (go_at_call 88; refine (hno _ _ (hrd _)).mono ?_; clear hno; rintro e w1 ⟨rfl, hr1, hk1⟩; have hz1 : w.heap.size + 2 ≤ w1.heap.size := (by have := hk1.size; simp at this; omega)) | (go_at_call 105; refine (must_any _ _ { data := #[64] } _ (rd_alloc hr1 _)).mono ?_; rintro e w2 ⟨rfl, hr2, hk2⟩) | (go_at_call 153; refine (hsu _ _ hr2).mono ?_; rintro e w3 ⟨rfl, hr3, hk3⟩; have hkk := kept_trans hk2 hk3; have hz3 : w1.heap.size < w3.heap.size := (by have := hkk.size; simp at this; omega); have hz0 : w.heap.size < w3.heap.size := (by omega); have hz2 : ¬ w.heap.size = w3.heap.size := (by omega); have hz4 : ¬ w1.heap.size = w3.heap.size := (by omega); have hc1 := fun o => (kcell hkk).1 w1.heap.size o (by simp) (by omega); have hka := kept_trans (kept_trans hk1 (kept_alloc _ _)) hkk; have hc0 := fun o => (kcell hka).1 w.heap.size o (by simp; omega) (by omega); have hf0 := fun o => (kcell hka).2 w.heap.size o (by simp; omega) (by omega)) | (go_at_call 91; have hx := hen _ _ (rd_alloc hr3 (.cells #[.string b1, .string b2, .string b3] 75)); refine hx.mono ?_; rintro e w4 ⟨rfl, rfl⟩))
    have hB3 : Below w.heap.size w w3 := below_kept ((below_kept (((Below.refl w.heap.size w).alloc (Nat.le_refl _) _).alloc (by simp) _) hk1 (by simp; omega) (by omega)).alloc (by omega) _) hkk (by simp; omega) (by omega)
    refine bodyPost_ret (v := .tuple #[tupVal s, .bool _]) (by rw [HV.out]; simp [results, Tryz.results98, go_sem, hc0, hz0]) rfl ⟨rfl, ?_⟩
    refine Below.alloc ?_ (by simp; omega) _
    refine Below.setCell ?_ (by simp) _
    refine Below.setCell ?_ (by simp) _
    refine Below.setCell ?_ (by simp) _
    refine Below.setCell ?_ (by simp) _
    refine Below.setCell ?_ (by simp) _
    refine Below.setCell ?_ (by simp) _
    exact hB3

end Go.Proofs.YtalmoiogbdahcaaGreat
