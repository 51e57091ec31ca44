import Derived.Test.YtalmoiogbdahcaaGreatYRefA
namespace Go.Proofs.YtalmoiogbdahcaaGreat
set_option maxRecDepth 100000
set_option maxHeartbeats 8000000
theorem Std.out {ts : List (Nod × Nod)} {rule : Nod -> WayT} {u x : Nod} (h : Std ts rule u x) : toldW ts (inU u (Std ts rule u)) x (rule x) :=
 h (fun y => toldW ts (inU u (Std ts rule u)) y (rule y)) fun _ hy => told_names (fun _ _ hz => Std.step hz) hy
theorem Std.iff {ts : List (Nod × Nod)} {rule : Nod -> WayT} {u x : Nod} : Std ts rule u x ↔ toldW ts (inU u (Std ts rule u)) x (rule x) := ⟨Std.out, Std.step⟩
end Go.Proofs.YtalmoiogbdahcaaGreat
