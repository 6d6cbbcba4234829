/-
  CODE.TEXT; SAME.BYTES.
-/
import Derived.Test.YtmkcdckemaohdaaInt
namespace Go.Proofs.Ytmkcdckemaohdaa
open Go.RowKit

set_option maxHeartbeats 1000000 in
set_option maxRecDepth 100000 in
theorem bytes_any (x y : Value) (l m : List UInt8) (w : World) (hx : Rd w x l) (hy : Rd w y m) :
    Calls Try.prog 13 #[x, y] w fun e w' => e = .returned (.bool (l == m)) ∧ w = w' := by
  have h1 := fun W (h : Rd W x l) => h.conv (P := Try.prog) 23 9 5 Try.underlying23 Try.underlying5 Try.underlying9
  have c1 := h1 w hx
  have c2 := hy.conv (P := Try.prog) 23 9 5 Try.underlying23 Try.underlying5 Try.underlying9
  clear h1 hx hy
  go_enter Try.func13, Try.ntmps13
  go_wp2_with fail
  go_ret
  exact ⟨rfl, rfl⟩

/-- The bytes of a text. -/
def textL (l : List UInt8) : List UInt8 := numL l.length ++ l

set_option maxHeartbeats 1000000 in
set_option maxRecDepth 100000 in
theorem text_any (x : Value) (l : List UInt8) (w : World) (hx : Rd w x l) (hl : l.length ≤ 140737488355300) :
    Calls Try.prog 11 #[x] w (Gives 5 w (textL l)) := by
  have hn := numL_len10 (v := l.length) (by omega)
  have hw : IntKind.u64.wrap (l.length : Int) = (l.length : Int) := by rw [wrap_u64]; omega
  have hlen := hx.len (P := Try.prog) 23 5
  go_enter Try.func11, Try.ntmps11
  go_wp2_with fail
  refine (num_any _ _ hn).mono ?_
  rintro e w1 h1
  obtain ⟨ao, c, rfl, h2, h3⟩ := h1.elim
  have hx1 := hx.old h3
  clear h1 hlen hw
  go_wp2_with (first
      | (at_builtin; refine wp_app rfl _ _ 23 rfl w.heap.size 5 Try.underlying23 (by kernel_rfl) _ _ _ rfl h2 _ l rfl hx1 ?c1 ?c2 ?_))
  case c1 => omega
  case c2 => exact h3.size
  intro v' w2 hown' hgrow
  have hb : Below w.heap.size w w2 := h3.grown hgrow h3.size (fun k hk => (h2.lt k hk).1)
  clear hgrow h2 hx1
  go_wp2_with fail
  go_ret
  exact ⟨_, rfl, by simpa [textL] using hown', hb⟩
end Go.Proofs.Ytmkcdckemaohdaa
