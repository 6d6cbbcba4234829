/-
  LAYER 12, THE DOCUMENT's: Next, Reads, Writes, Deletes.
-/
import Derived.Test.YtafcbelkhhjcoaaSe
set_option linter.unusedVariables false
set_option linter.unusedSimpArgs false
set_option maxRecDepth 100000
namespace Go.Proofs.Ytafcbelkhhjcoaa
open Go.RowKit Go.Deep

def nextI (s : Int) : Int := if s = 1 ∨ s = 2 ∨ s = 3 ∨ s = 5 ∨ s = 6 then s + 1 else if s = 4 then 4 else 0
def readsI (s : Int) : Bool := decide (s = 4)
def writesI (s : Int) : Bool := decide (2 ≤ s) && decide (s ≤ 5)
def deletesI (s : Int) : Bool := decide (1 ≤ s) && decide (s ≤ 7)

set_option maxHeartbeats 4000000 in
theorem rNext_any (w : World) (a b s : Int) (n : ByteArray) (x : Value) (p q : Bool) (hx : x.oneCell' = true) : Calls Try.prog 38 #[.agg #[.int .i64 a, .int .i64 b, .string n, x, .bool p, .int .i64 s, .bool q]] w (fun e w' => e = .returned (.int .i64 (nextI s)) ∧ Below w.heap.size w w') := by
  go_enter Try.func38, Try.ntmps38
  go_upto_region 1 with fail
  have hb := (Below.refl w.heap.size w).alloc (Nat.le_refl _) (.cells #[.int .i64 a, .int .i64 b, .string n, x, .bool p, .int .i64 s, .bool q] 37)
  have hz := heap_alloc_new w (.cells #[.int .i64 a, .int .i64 b, .string n, x, .bool p, .int .i64 s, .bool q] 37)
  generalize w.alloc (.cells #[.int .i64 a, .int .i64 b, .string n, x, .bool p, .int .i64 s, .bool q] 37) = w1 at *
  have HB := hid hb
  have z5 := cell_in hz 5 _ rfl
  clear hb hz
  by_cases h1 : s = 1
  · subst h1; go_wp2_with fail; go_ret; exact ⟨rfl, HB.out⟩
  by_cases h2 : s = 2
  · subst h2; clear h1; go_wp2_with fail; go_ret; exact ⟨rfl, HB.out⟩
  by_cases h3 : s = 3
  · subst h3; clear h1 h2; go_wp2_with fail; go_ret; exact ⟨rfl, HB.out⟩
  by_cases h5 : s = 5
  · subst h5; clear h1 h2 h3; go_wp2_with fail; go_ret; exact ⟨rfl, HB.out⟩
  by_cases h6 : s = 6
  · subst h6; clear h1 h2 h3 h5; go_wp2_with fail; go_ret; exact ⟨rfl, HB.out⟩
  by_cases h4 : s = 4
  · subst h4; clear h1 h2 h3 h5 h6; go_wp2_with fail; go_ret; exact ⟨rfl, HB.out⟩
  have HR : Hid (nextI s = 0) := hid (by unfold nextI; simp [h1, h2, h3, h4, h5, h6])
  have e1 : (s == 1) = false := by simp [h1]
  have e2 : (s == 2) = false := by simp [h2]
  have e3 : (s == 3) = false := by simp [h3]
  have e4 : (s == 4) = false := by simp [h4]
  have e5 : (s == 5) = false := by simp [h5]
  have e6 : (s == 6) = false := by simp [h6]
  clear h1 h2 h3 h4 h5 h6
  go_wp2_with fail
  go_ret
  exact ⟨by rw [HR.out]; rfl, HB.out⟩
end Go.Proofs.Ytafcbelkhhjcoaa
