/-
  BEGINS: do bytes begin with others?
-/
import Derived.Test.YtacmidfcocjdjaaTEnd
namespace Go.Proofs.Ytacmidfcocjdjaa
open Go.RowKit

theorem begins_dec (l m : List UInt8) (h : m.length ≤ l.length) : (l.take m.length == m) = decide (m <+: l) := by
  by_cases hp : m <+: l
  · rw [decide_eq_true hp]
    have := List.prefix_iff_eq_take.1 hp
    rw [← this]; simp
  · rw [decide_eq_false hp]
    simp only [beq_eq_false_iff_ne]
    intro e
    exact hp (List.prefix_iff_eq_take.2 e.symm)

set_option maxHeartbeats 2000000 in
set_option maxRecDepth 100000 in
theorem begins_any (x y : Value) (l m : List UInt8) (w : World) (hx : Rd w x l) (hy : Rd w y m) :
    Calls Try.prog 30 #[x, y] w fun e w' => e = .returned (.bool (decide (m <+: l))) ∧ ∃ n, w' = w.drewN n := by
  have hlx := hx.len (P := Try.prog) 27 5
  have hly := hy.len (P := Try.prog) 27 5
  have ex := hx
  have ey := hy
  obtain ⟨ax, cx, rfl, -⟩ := ex
  obtain ⟨ay, cy, rfl, -⟩ := ey
  by_cases hge : m.length ≤ l.length
  · have hg : decide ((l.length : Int) ≥ (m.length : Int)) = true := by simp; omega
    obtain ⟨ao2, c2, hs2, hr2, hb2⟩ := hx.head (P := Try.prog) 27 5 Try.underlying27 (by kernel_rfl) m.length hge
    have hs2' := fun W => hs2 .i64 W
    have hx2 := Rd.size hr2
    have v1 := fun n => (show Rd (w.drewN n) _ _ from hr2).conv (P := Try.prog) 27 9 5 Try.underlying27 Try.underlying5 Try.underlying9
    have v2 := fun n => (show Rd (w.drewN n) _ _ from hy).conv (P := Try.prog) 27 9 5 Try.underlying27 Try.underlying5 Try.underlying9
    have HD := hid (begins_dec l m hge)
    clear hx hy hr2 hs2 hx2 hb2
    go_enter Try.func30, Try.ntmps30
    go_wp2_with fail
    go_quiet (fail)
    go_wp2_with fail
    go_ret
    exact ⟨by rw [← HD.out]; rfl, nq, rfl⟩
  · have hg : decide ((l.length : Int) ≥ (m.length : Int)) = false := by simp; omega
    have HD : Hid (decide (m <+: l) = false) := decide_eq_false (fun h => hge h.length_le)
    clear hx hy
    go_enter Try.func30, Try.ntmps30
    go_wp2_with fail
    go_quiet (fail)
    go_wp2_with fail
    go_ret
    rw [HD.out]
    exact ⟨rfl, nq, rfl⟩

/-- awake, wherever it is called. -/
theorem awake_from {w wr : World} (h : Below w.heap.size w wr) : Calls Try.prog 10 #[] wr fun e w' => e = .returned (.bool true) ∧ Below w.heap.size w w' :=
  (awake_any wr).mono fun _ _ ⟨h1, h2⟩ => ⟨h1, h.trans (h2.mono h.size)⟩

theorem drew_below {w wr : World} (h : Below w.heap.size w wr) (n : Nat) : Below w.heap.size w (wr.drewN n) := ⟨h.os, h.tape, h.output, h.size, h.block⟩
end Go.Proofs.Ytacmidfcocjdjaa
