/-
  BYTES.CLONE; CODE.NEW; CODE's BOUND.
-/
import Derived.Test.YtmkcdckemaohdaaReader
namespace Go.Proofs.Ytmkcdckemaohdaa
open Go.RowKit

set_option maxHeartbeats 1000000 in
set_option maxRecDepth 100000 in
theorem clone_any (w : World) (x : Value) (l : List UInt8) (h : Rd w x l) (hl : l.length ≤ 140737488355328) :
    Calls Try.prog 35 #[x] w (Gives 5 w l) := by
  obtain ⟨ao, c, rfl, h1, h2, h3, h4⟩ := h
  cases ao with
  | none =>
    have hc := h3 rfl
    obtain rfl : l = [] := List.eq_nil_of_length_eq_zero (by omega)
    subst hc
    have heq := fun W => Lib.run_eql_slice_nil (P := Try.prog) W 23 5 none 0 0 0 0 Try.underlying23
    go_enter Try.func35, Try.ntmps35
    go_wp2_with fail
    go_ret
    exact ⟨_, rfl, World.ownsRow_nil _ _ _ _, Below.refl _ _⟩
  | some a =>
    have HR : Hid (Rd w (.slice (some a) l.length c) l) := ⟨some a, c, rfl, h1, h2, h3, h4⟩
    have heq := fun W => Lib.run_eql_slice_nil (P := Try.prog) W 23 5 (some a) l.length c 0 0 Try.underlying23
    have hown : (w.alloc (.cells #[] 5)).ownsRow w.heap.size 5 1 (.slice (some ⟨w.heap.size, 0, none⟩) 0 0) 0 [] := World.ownsRow_made w #[] 0 (Nat.le_refl _) (by decide) rfl
    have HR2 := HR.out.alloc (.cells #[] 5)
    clear h3 h4
    go_enter Try.func35, Try.ntmps35
    go_wp2_with (first
      | (at_builtin; refine wp_app rfl _ _ 23 rfl w.heap.size 5 Try.underlying23 (by kernel_rfl) _ _ _ rfl hown _ l rfl HR2 ?c1 ?c2 ?_))
    case c1 => omega
    case c2 => simp
    intro v' w1 hown' hgrow
    have hb : Below w.heap.size w w1 := ((Below.refl _ _).alloc (Nat.le_refl _) _).grown hgrow (by simp) (fun k hk => by simp [Value.ownBlock] at hk; omega)
    clear hgrow hown HR2
    go_wp2
    go_ret
    exact ⟨_, rfl, by simpa using hown', hb⟩

/-- A reader whose bytes lie in blocks from lo on. -/
def RLo (w : World) (R lo : Nat) (l : List UInt8) (e : Int) : Prop :=
  ∃ (ao : Option Addr) (c : Nat), w.heap[R]? = some (.cells #[.slice ao l.length c, .int .i64 e] 56 (0, 0)) ∧ Rd w (.slice ao l.length c) l ∧ ∀ k, blk (.slice ao l.length c) = some k → lo ≤ k ∧ k < R

theorem RLo.rat {w : World} {R lo : Nat} {l : List UInt8} {e : Int} (h : RLo w R lo l e) : RAt w R l e := by
  obtain ⟨ao, c, h1, h2, h3⟩ := h
  exact ⟨ao, c, h1, h2, fun k hk => (h3 k hk).2⟩

theorem RLo.kept {w w' : World} {R lo : Nat} {l : List UInt8} {e : Int} {row : Option Nat} (h : RLo w R lo l e) (hg : w.grownBy w' row) (hne : ∀ k, row = some k → k < lo ∧ k < R) : RLo w' R lo l e := by
  obtain ⟨ao, c, h1, h2, h3⟩ := h
  refine ⟨ao, c, heap_kept hg h1 (fun h => by have := hne R h.symm; omega), h2.kept hg ?_, h3⟩
  cases hb : blk (.slice ao l.length c) with
  | none => exact .inl rfl
  | some k =>
    right
    intro hk
    have h5 := h3 k hb
    have h6 := hne k hk.symm
    omega

theorem RLo.old {w w' : World} {R lo : Nat} {l : List UInt8} {e : Int} (h : RLo w R lo l e) (hb : Below w.heap.size w w') : RLo w' R lo l e :=
  h.kept (grown_below hb none) (fun k hk => by cases hk)

set_option maxHeartbeats 1000000 in
set_option maxRecDepth 100000 in
theorem new_lo (w : World) (x : Value) (l : List UInt8) (h : Rd w x l) (hl : l.length ≤ 140737488355328) :
    Calls Try.prog 20 #[x] w fun en w' => ∃ R, en = .returned (.pointer (some ⟨R, 0, none⟩)) ∧ w.heap.size ≤ R ∧ RLo w' R w.heap.size l 0 ∧ Below w.heap.size w w' := by
  go_enter Try.func20, Try.ntmps20
  go_wp2_with fail
  refine (clone_any w x l h hl).mono ?_
  rintro en w1 hg
  obtain ⟨ao, c, rfl, h1, h2⟩ := hg.elim
  have h3 := Rd.own h1
  have h4 := h1.lt
  clear hg h1
  go_wp2_with fail
  go_ret
  refine ⟨w1.heap.size, rfl, h2.size, ⟨ao, c, heap_alloc_new _ _, h3.alloc _, ?_⟩, h2.alloc h2.size _⟩
  intro k hk
  cases ao with
  | none => simp [blk] at hk
  | some a =>
    simp only [blk, Option.some.injEq] at hk
    have := h4 a.block rfl
    omega

theorem new_any (w : World) (x : Value) (l : List UInt8) (h : Rd w x l) (hl : l.length ≤ 140737488355328) :
    Calls Try.prog 20 #[x] w fun en w' => ∃ R, en = .returned (.pointer (some ⟨R, 0, none⟩)) ∧ w.heap.size ≤ R ∧ RAt w' R l 0 ∧ Below w.heap.size w w' :=
  (new_lo w x l h hl).mono fun _ _ ⟨R, h1, h2, h3, h4⟩ => ⟨R, h1, h2, h3.rat, h4⟩

/-- A number, or 0. -/
def nn (z : Int) : Nat := z.toNat

set_option maxHeartbeats 1000000 in
set_option maxRecDepth 100000 in
theorem bound_any (w : World) (z : Int) (hz : (Lit.int .i64 z).wf = true) :
    Calls Try.prog 37 #[.int .i64 z] w fun en w' => en = .returned (.int .u64 (nn z : Int)) ∧ w = w' := by
  have hb := bounds_i64 hz
  by_cases h : z < 0
  · have HW : Hid (IntKind.u64.wrap 0 = (nn z : Int)) := by unfold nn; rw [wrap_u64]; show (0 : Int) % _ = _; omega
    clear hb
    go_enter Try.func37, Try.ntmps37
    go_wp2
    go_ret
    exact ⟨by rw [← HW.out]; rfl, rfl⟩
  · have HW : Hid (IntKind.u64.wrap z = (nn z : Int)) := by unfold nn; rw [wrap_u64]; show _ = _; omega
    clear hb
    go_enter Try.func37, Try.ntmps37
    go_wp2
    go_ret
    exact ⟨by rw [← HW.out]; rfl, rfl⟩
end Go.Proofs.Ytmkcdckemaohdaa
