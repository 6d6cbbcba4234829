/-
  PAGES: the laws' own small functions: may, CopyBytes.
-/
import Derived.Test.YtcgnghkjkdkmmaaGg
set_option linter.unusedVariables false
namespace Go.Proofs.Ytcgnghkjkdkmmaa
open Go.RowKit Go.Shelf

set_option maxHeartbeats 1000000 in
set_option maxRecDepth 100000 in
theorem may_any (m : Lp) (w : World) (hm : RdP w m) : Calls Try.prog 21 #[pv m] w (AnsP w (.int .i64 (mayE m))) := by
  have o1 := one_rd hm.1
  have o2 := one_rd hm.2
  have HB := hid ((Below.refl w.heap.size w).alloc (Nat.le_refl _) (.cells #[(.slice m.ka m.key.length m.kc), (.slice m.va m.val.length m.vc), .int .i64 m.ver] 31))
  clear hm
  unfold pv mayE
  by_cases h0 : m.key.length = 0
  · have h0' : ((m.key.length : Int) == 0) = true := by simp [h0]
    rw [if_pos (.inl h0)]
    go_enter Try.func21, Try.ntmps21
    go_wp2_with fail
    go_ret
    have h9 := HB.out
    rw [h0] at h9
    exact ⟨rfl, h9⟩
  · have h0' : ((m.key.length : Int) == 0) = false := beq_eq_false_iff_ne.2 (by omega)
    by_cases h6 : 600 < m.key.length
    · have h6' : (600 : Int) < (m.key.length : Int) := by omega
      rw [if_pos (.inr h6)]
      go_enter Try.func21, Try.ntmps21
      go_wp2_with fail
      go_ret
      exact ⟨rfl, HB.out⟩
    · have h6' : ¬ (600 : Int) < (m.key.length : Int) := by omega
      have h6d : decide ((600 : Int) < (m.key.length : Int)) = false := decide_eq_false h6'
      rw [if_neg (by omega)]
      by_cases h1 : 1000 < m.val.length
      · have h1' : (1000 : Int) < (m.val.length : Int) := by omega
        rw [if_pos h1]
        go_enter Try.func21, Try.ntmps21
        go_wp2_with fail
        go_ret
        exact ⟨rfl, HB.out⟩
      · have h1' : ¬ (1000 : Int) < (m.val.length : Int) := by omega
        have h1d : decide ((1000 : Int) < (m.val.length : Int)) = false := decide_eq_false h1'
        rw [if_neg h1]
        go_enter Try.func21, Try.ntmps21
        go_wp2_with fail
        go_ret
        exact ⟨rfl, HB.out⟩

set_option maxHeartbeats 1000000 in
set_option maxRecDepth 100000 in
theorem copyB_any (w : World) (x : Value) (l : List UInt8) (h : Rd w x l) (hl : l.length ≤ 140737488355328) :
    Calls Try.prog 36 #[x] w (Gives 5 w l) := by
  have HR := hid h
  obtain ⟨ao, c, rfl, -⟩ := h
  have hown : w.ownsRow w.heap.size 5 1 (.slice none 0 0) 0 [] := World.ownsRow_nil _ _ _ _
  have HR2 := HR.out
  go_enter Try.func36, Try.ntmps36
  go_wp2_with (first
    | (at_builtin; refine wp_app rfl _ _ 23 rfl w.heap.size 5 Try.underlying23 (by kernel_rfl) _ _ _ rfl hown _ l rfl HR2 ?c1 ?c2 ?_))
  case c1 => omega
  case c2 => exact Nat.le_refl _
  intro v' w1 hown' hgrow
  have hb : Below w.heap.size w w1 := (Below.refl _ _).grown hgrow (Nat.le_refl _) (fun k hk => by simp [Value.ownBlock] at hk)
  clear hgrow hown HR2
  go_wp2
  go_ret
  exact ⟨_, rfl, by simpa using hown', hb⟩
end Go.Proofs.Ytcgnghkjkdkmmaa
