/-
  PAGES: what makes the iterators.
-/
import Derived.Test.YtcgnghkjkdkmmaaGbt
set_option linter.unusedVariables false
namespace Go.Proofs.Ytcgnghkjkdkmmaa
open Go.RowKit Go.Shelf

/-- An iterator, its function's number and the box that it reads. -/
def MakeA (f : Nat) (t : TypeId) (v : Value) (w : World) (e : Ending) (w' : World) : Prop :=
  e = .returned (.func (.func f) #[] #[.pointer (some ⟨w.heap.size, 0, none⟩)]) ∧ w' = w.alloc (.cells #[v] t)

set_option maxRecDepth 100000 in
theorem rising_any (x : Value) (G : List Pg) (w : World) (hx : Pgs w x G) : Calls Try.prog 40 #[x] w (MakeA 54 63 x w) := by
  obtain ⟨ao, c, rfl, -⟩ := hx.form
  clear hx
  go_enter Try.func40, Try.ntmps40
  go_wp2_with fail
  go_ret
  exact ⟨rfl, rfl⟩
set_option maxRecDepth 100000 in
theorem falling_any (x : Value) (G : List Pg) (w : World) (hx : Pgs w x G) : Calls Try.prog 39 #[x] w (MakeA 51 63 x w) := by
  obtain ⟨ao, c, rfl, -⟩ := hx.form
  clear hx
  go_enter Try.func39, Try.ntmps39
  go_wp2_with fail
  go_ret
  exact ⟨rfl, rfl⟩
set_option maxRecDepth 100000 in
theorem backG_any (ao : Option Addr) (n c : Nat) (w : World) : Calls Try.prog 52 #[.slice ao n c] w (MakeA 65 63 (.slice ao n c) w) := by
  go_enter Try.func52, Try.ntmps52
  go_wp2_with fail
  go_ret
  exact ⟨rfl, rfl⟩
set_option maxRecDepth 100000 in
theorem backP_any (ao : Option Addr) (n c : Nat) (w : World) : Calls Try.prog 53 #[.slice ao n c] w (MakeA 66 29 (.slice ao n c) w) := by
  go_enter Try.func53, Try.ntmps53
  go_wp2_with fail
  go_ret
  exact ⟨rfl, rfl⟩
end Go.Proofs.Ytcgnghkjkdkmmaa
