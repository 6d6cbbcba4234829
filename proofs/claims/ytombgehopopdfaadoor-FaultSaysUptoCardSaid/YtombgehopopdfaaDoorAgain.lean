/-
  fault.Again, and the document's.
-/
import Derived.Test.YtombgehopopdfaaDoorProg
import Derived.WalkKit
import Derived.RowKit
set_option linter.unusedVariables false
set_option linter.unusedSimpArgs false
namespace Go.Proofs.YtombgehopopdfaaDoor
open Go.RowKit

def againOf (n : Int) : Int :=
  if n = 0 then 0 else if n = 19 then 1 else if n = 20 then 1 else if n = 3 then 1 else
  if n = 12 then 2 else if n = 13 then 2 else if n = 14 then 2 else if n = 15 then 2 else if n = 21 then 2 else if n = 16 then 2 else 3

set_option maxHeartbeats 2000000 in
set_option maxRecDepth 100000 in
theorem again_any (n : Int) (w : World) : Calls Tryd.prog 23 #[.int .i64 n] w fun e w' => e = .returned (.int .i64 (againOf n)) ∧ w' = w := by
  go_enter Tryd.func23, Tryd.ntmps23
  go_wp2
  all_goals (go_ret; refine ⟨?_, rfl⟩; unfold againOf; simp_all)

set_option maxHeartbeats 2000000 in
set_option maxRecDepth 100000 in
theorem ragain_any (n : Int) (w : World) : Calls Tryd.prog 24 #[.int .i64 n] w fun e w' => e = .returned (.int .i64 (againOf n)) ∧ w' = w := by
  go_enter Tryd.func24, Tryd.ntmps24
  go_wp2
  all_goals (go_ret; refine ⟨?_, rfl⟩; unfold againOf; simp_all)
end Go.Proofs.YtombgehopopdfaaDoor
