import Derived.WalkKit
import Derived.OpenShut
import Derived.Test.YtnjmhlmimpdahaaRows
import Derived.WalkSpells
import Derived.WalkLawsBesides
import Derived.Laws.AppendOwnNone
import Derived.Test.YtnjmhlmimpdahaaWA1
set_option linter.unusedVariables false
set_option linter.unusedSimpArgs false
namespace Go.Proofs.Ytnjmhlmimpdahaa
open Go.RowKit

set_option maxHeartbeats 1000000 in
set_option maxRecDepth 100000 in
theorem bytes_any (x y : Value) (l m : List UInt8) (w : World) (hx : Rd w x l) (hy : Rd w y m) :
    Calls Try.prog 12 #[x, y] w fun e w' => e = .returned (.bool (l == m)) ∧ w = w' := by
  have h1 := fun W (h : Rd W x l) => h.conv (P := Try.prog) 35 9 5 Try.underlying35 Try.underlying5 Try.underlying9
  have c1 := h1 w hx
  have c2 := hy.conv (P := Try.prog) 35 9 5 Try.underlying35 Try.underlying5 Try.underlying9
  clear h1 hx hy
  go_enter Try.func12, Try.ntmps12
  go_wp2_with fail
  go_ret
  exact ⟨rfl, rfl⟩

/-- The bytes of a text. -/
def textL (l : List UInt8) : List UInt8 := numL l.length ++ l

end Go.Proofs.Ytnjmhlmimpdahaa

namespace Go.Proofs.Ytnjmhlmimpdahaa
open Go.RowKit

theorem lookS_back {v m : Nat} (h : v < 2 ^ 64) (hm : v ≤ m) (r : List UInt8) : lookS m (numL v ++ r) 0 = (v, (numL v).length, 0) := by
  unfold lookS
  rw [if_neg (by simp), rdN_back h r, if_neg (by simp; omega)]

theorem unzig_zig {i : Int} (_h : (Lit.int .i64 i).wf = true) : unzig (zig i) = i := by
  unfold unzig zig
  split <;> split <;> omega

theorem textS_back {b : List UInt8} {m : Nat} (h : b.length ≤ m) (hb : b.length < 2 ^ 64) (r : List UInt8) : textS m (textL b ++ r) 0 = (b, (textL b).length, 0) := by
  have e : textL b ++ r = numL b.length ++ (b ++ r) := by unfold textL; simp
  have h0 := numL_pos b.length
  unfold textS
  rw [e, lookS_back hb h]
  rw [if_neg (by simp; intro h1; rw [h1] at h0; simp at h0), if_neg (by simp)]
  simp [textL]

end Go.Proofs.Ytnjmhlmimpdahaa

