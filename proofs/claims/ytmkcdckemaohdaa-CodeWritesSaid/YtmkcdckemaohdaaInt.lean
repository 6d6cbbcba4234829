/-
  CODE.INT, AWAKE.
-/
import Derived.Test.YtmkcdckemaohdaaNum
import Derived.Test.YtmkcdckemaohdaaBits
namespace Go.Proofs.Ytmkcdckemaohdaa
open Go.RowKit

set_option maxHeartbeats 400000 in
set_option maxRecDepth 100000 in
theorem int_any (v : Int) (w : World) (hv : (Lit.int .i64 v).wf = true) :
    Calls Try.prog 16 #[.int .i64 v] w (Gives 5 w (numL (zig v))) := by
  have Hl := numL_zig hv
  by_cases hn : v < 0
  · have Hz := hid (zig_neg hv hn)
    clear hv
    go_enter Try.func16, Try.ntmps16
    go_wp2_with fail
    rw [Hz.out]
    refine (num_any _ _ Hl).mono ?_
    rintro e w' ⟨x, rfl, hx⟩
    go_wp2
    go_ret
    exact ⟨_, rfl, hx⟩
  · have Hz := hid (zig_pos hv (by omega))
    clear hv
    go_enter Try.func16, Try.ntmps16
    go_wp2_with fail
    rw [Hz.out]
    refine (num_any _ _ Hl).mono ?_
    rintro e w' ⟨x, rfl, hx⟩
    go_wp2
    go_ret
    exact ⟨_, rfl, hx⟩

theorem numL_300 : numL 300 = [172, 2] := by
  rw [numL_ge (by omega), numL_lt (by omega)]
  decide

set_option maxHeartbeats 400000 in
set_option maxRecDepth 100000 in
theorem awake_any (w : World) :
    Calls Try.prog 12 #[] w fun e w' => e = .returned (.bool true) ∧ Below w.heap.size w w' := by
  go_enter Try.func12, Try.ntmps12
  go_wp2_with fail
  refine (num_any 300 _ (by rw [numL_300]; decide)).mono ?_
  rintro e w' ⟨x, rfl, hx, hb⟩
  rw [numL_300] at hx
  rcases hx.2 with ⟨rfl, hn⟩ | ⟨g, cap, cur, rfl, hg1, hg, hn, hc, hs, ht⟩
  · simp at hn
  have hc0 := hx.cells rfl 0 _ rfl
  have hc1 := hx.cells rfl 1 _ rfl
  simp only [WideShapes.add_plain, bv] at hc0 hc1
  have hcap : 2 ≤ cap := hn
  clear hs ht hg hx hn
  go_wp2
  go_ret
  exact ⟨rfl, hb⟩
end Go.Proofs.Ytmkcdckemaohdaa
