import Derived.WalkKit
import Derived.OpenShut
import Derived.Test.YtdfccaehoodjhaaGreatRows
import Derived.WalkSpells
import Derived.WalkLawsBesides
import Derived.Laws.AppendOwnNone
import Derived.Test.YtdfccaehoodjhaaGreatWP1
set_option linter.unusedVariables false
set_option linter.unusedSimpArgs false
namespace Go.Proofs.YtdfccaehoodjhaaGreat
open Go.RowKit

set_option maxHeartbeats 1000000 in
set_option maxRecDepth 100000 in
theorem bytes_any (x y : Value) (l m : List UInt8) (w : World) (hx : Rd w x l) (hy : Rd w y m) :
    Calls Tryz.prog 57 #[x, y] w fun e w' => e = .returned (.bool (l == m)) ∧ w = w' := by
  have h1 := fun W (h : Rd W x l) => h.conv (P := Tryz.prog) 22 9 5 Tryz.underlying22 Tryz.underlying5 Tryz.underlying9
  have c1 := h1 w hx
  have c2 := hy.conv (P := Tryz.prog) 22 9 5 Tryz.underlying22 Tryz.underlying5 Tryz.underlying9
  clear h1 hx hy
  go_enter Tryz.func57, Tryz.ntmps57
  go_wp2_with fail
  go_ret
  exact ⟨rfl, rfl⟩

/-- The bytes of a text. -/
def textL (l : List UInt8) : List UInt8 := numL l.length ++ l

set_option maxHeartbeats 1000000 in
set_option maxRecDepth 100000 in
theorem text_any (x : Value) (l : List UInt8) (w : World) (hx : Rd w x l) (hl : l.length ≤ 140737488355300) :
    Calls Tryz.prog 192 #[x] w (Gives 5 w (textL l)) := by
  have hn := numL_len10 (v := l.length) (by omega)
  have hw : IntKind.u64.wrap (l.length : Int) = (l.length : Int) := by rw [wrap_u64]; omega
  have hlen := hx.len (P := Tryz.prog) 22 5
  go_enter Tryz.func192, Tryz.ntmps192
  go_wp2_with fail
  refine (num_any _ _ hn).mono ?_
  rintro e w1 h1
  obtain ⟨ao, c, rfl, h2, h3⟩ := h1.elim
  have hx1 := hx.old h3
  clear h1 hlen hw
  go_wp2_with (first
      | (at_builtin; refine wp_app rfl _ _ 22 rfl w.heap.size 5 Tryz.underlying22 (by kernel_rfl) _ _ _ rfl h2 _ l rfl hx1 ?c1 ?c2 ?_))
  case c1 => omega
  case c2 => exact h3.size
  intro v' w2 hown' hgrow
  have hb : Below w.heap.size w w2 := h3.grown hgrow h3.size (fun k hk => (h2.lt k hk).1)
  clear hgrow h2 hx1
  go_wp2_with fail
  go_ret
  exact ⟨_, rfl, by simpa [textL] using hown', hb⟩
end Go.Proofs.YtdfccaehoodjhaaGreat

namespace Go.Proofs.YtdfccaehoodjhaaGreat
open Go.RowKit

theorem lookS_back {v m : Nat} (h : v < 2 ^ 64) (hm : v ≤ m) (r : List UInt8) : lookS m (numL v ++ r) 0 = (v, (numL v).length, 0) := by
  unfold lookS
  rw [if_neg (by simp), rdN_back h r, if_neg (by simp; omega)]

theorem unzig_zig {i : Int} (_h : (Lit.int .i64 i).wf = true) : unzig (zig i) = i := by
  unfold unzig zig
  split <;> split <;> omega

theorem textS_back {b : List UInt8} {m : Nat} (h : b.length ≤ m) (hb : b.length < 2 ^ 64) (r : List UInt8) : textS m (textL b ++ r) 0 = (b, (textL b).length, 0) := by
  have e : textL b ++ r = numL b.length ++ (b ++ r) := by unfold textL; simp
  have h0 := numL_pos b.length
  unfold textS
  rw [e, lookS_back hb h]
  rw [if_neg (by simp; intro h1; rw [h1] at h0; simp at h0), if_neg (by simp)]
  simp [textL]

end Go.Proofs.YtdfccaehoodjhaaGreat

