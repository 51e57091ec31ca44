import Derived.Test.YtalmoiogbdahcaaGreatYRefA
namespace Go.Proofs.YtalmoiogbdahcaaGreat
set_option maxRecDepth 100000
set_option maxHeartbeats 8000000
theorem subsOf_sub {ts ts' : List (Nod × Nod)} (h : ∀ t ∈ ts, t ∈ ts') {x y : Nod} (hy : y ∈ subsOf ts x) : y ∈ subsOf ts' x := by
 unfold subsOf at hy ⊢
 obtain ⟨t, ht, rfl⟩ := List.mem_map.1 hy
 exact List.mem_map.2 ⟨t, List.mem_filter.2 ⟨h t (List.mem_filter.1 ht).1, (List.mem_filter.1 ht).2⟩, rfl⟩
theorem leafW_sub {ts ts' : List (Nod × Nod)} (h : ∀ t ∈ ts, t ∈ ts') {x y : Nod} {is : Int} {over rel : ByteArray} (hy : y ∈ leafW ts x is over rel) : y ∈ leafW ts' x is over rel := by
 unfold leafW at hy ⊢
 split
 ·rename_i e; rw [if_pos e] at hy; exact subsOf_sub h hy
 ·rename_i e
  rw [if_neg e] at hy
  split
  ·rename_i e2; rw [if_pos e2] at hy; exact hy
  ·rename_i e2
   rw [if_neg e2] at hy
   obtain ⟨z, hz, rfl⟩ := List.mem_map.1 hy
   have hz := List.mem_filter.1 hz
   exact List.mem_map.2 ⟨z, List.mem_filter.2 ⟨subsOf_sub h hz.1, hz.2⟩, rfl⟩
mutual
theorem namedW_sub {ts ts' : List (Nod × Nod)} (hs : ∀ t ∈ ts, t ∈ ts') {x y : Nod} : (t : WayT) -> y ∈ namedW ts x t -> y ∈ namedW ts' x t
 | .mk is over rel parts, h => by
  rw [namedW] at h ⊢
  by_cases hl : isLeaf is = true
  ·rw [if_pos hl] at h ⊢; exact leafW_sub hs h
  ·rw [if_neg hl] at h ⊢; exact namedL_sub hs parts h
theorem namedL_sub {ts ts' : List (Nod × Nod)} (hs : ∀ t ∈ ts, t ∈ ts') {x y : Nod} : (l : List WayT) -> y ∈ namedL ts x l -> y ∈ namedL ts' x l
 | [], h => by rw [namedL] at h; cases h
 | t :: l, h => by
  rw [namedL] at h ⊢
  rcases List.mem_append.1 h with h | h
  ·exact List.mem_append_left _ (namedW_sub hs t h)
  ·exact List.mem_append_right _ (namedL_sub hs l h)
end
mutual
theorem toldW_sub {ts ts' : List (Nod × Nod)} (hs : ∀ t ∈ ts, t ∈ ts') {P : Nod -> Prop} {x : Nod} : (t : WayT) -> toldW ts P x t -> toldW ts' P x t
 | .mk is over rel parts, hp => by
  rw [toldW] at hp ⊢
  by_cases h3 : is = 3
  ·rw [if_pos h3] at hp ⊢; exact toldO_sub hs parts hp
  ·rw [if_neg h3] at hp ⊢
   by_cases h4 : is = 4
   ·rw [if_pos h4] at hp ⊢; exact toldA_sub hs parts hp
   ·rw [if_neg h4] at hp ⊢
    obtain ⟨y, hy, hp⟩ := hp
    exact ⟨y, namedW_sub hs _ hy, hp⟩
theorem toldO_sub {ts ts' : List (Nod × Nod)} (hs : ∀ t ∈ ts, t ∈ ts') {P : Nod -> Prop} {x : Nod} : (l : List WayT) -> toldO ts P x l -> toldO ts' P x l
 | [], hp => by rw [toldO] at hp; exact hp.elim
 | t :: l, hp => by
  rw [toldO] at hp ⊢
  rcases hp with hp | hp
  ·exact Or.inl (toldW_sub hs t hp)
  ·exact Or.inr (toldO_sub hs l hp)
theorem toldA_sub {ts ts' : List (Nod × Nod)} (hs : ∀ t ∈ ts, t ∈ ts') {P : Nod -> Prop} {x : Nod} : (l : List WayT) -> toldA ts P x l -> toldA ts' P x l
 | [], _ => by rw [toldA]; trivial
 | t :: l, hp => by
  rw [toldA] at hp ⊢
  exact ⟨toldW_sub hs t hp.1, toldA_sub hs l hp.2⟩
end
theorem Std.sub {ts ts' : List (Nod × Nod)} (hs : ∀ t ∈ ts, t ∈ ts') {rule : Nod -> WayT} {u x : Nod} (h : Std ts rule u x) : Std ts' rule u x :=
 fun P hP => h P fun y hy => hP y (toldW_sub hs _ hy)
end Go.Proofs.YtalmoiogbdahcaaGreat
