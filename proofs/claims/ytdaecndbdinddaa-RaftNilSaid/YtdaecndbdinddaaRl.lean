/-
  RAFT: the calls of no node.
-/
import Derived.Test.YtdaecndbdinddaaRk
set_option linter.unusedVariables false
set_option linter.unusedSimpArgs false
set_option maxRecDepth 100000
namespace Go.Proofs.Ytdaecndbdinddaa
open Go.RowKit Go.Deep

theorem tick_nil (w : World) : Calls Try.prog 21 #[.pointer none] w (fun e w' => e = .returned (.tuple #[]) ∧ w' = w) := by
  go_enter Try.func21, Try.ntmps21
  go_wp2_with (first | (go_at_call 36; refine (rnone_nil _).mono ?_; rintro en w2 ⟨rfl, rfl⟩))
  ((try simp only [Exit.inBlock, Exit.then]); refine bodyPost_ret (results_none rfl _ _ _) rfl ?_)
  exact ⟨rfl, rfl⟩
theorem propose_nil (x : Value) (w : World) : Calls Try.prog 15 #[.pointer none, x] w (fun e w' => e = .returned (.tuple #[.int .u64 0, .int .i64 2]) ∧ Below w.heap.size w w') := by
  go_enter Try.func15, Try.ntmps15
  go_wp2_with (first | (go_at_call 36; refine (rnone_nil _).mono ?_; rintro en w2 ⟨rfl, hw2⟩; subst hw2))
  go_ret2
  exact ⟨rfl, (Below.refl _ _).alloc (Nat.le_refl _) _⟩
theorem step_nil (x0 x1 x2 x3 x4 x5 x6 x7 x8 x9 : Value) (w : World) : Calls Try.prog 29 #[.pointer none, .agg #[x0, x1, x2, x3, x4, x5, x6, x7, x8, x9]] w (fun e w' => e = .returned (.int .i64 2) ∧ Below w.heap.size w w') := by
  go_enter Try.func29, Try.ntmps29
  go_wp2_with (first | (go_at_call 36; refine (rnone_nil _).mono ?_; rintro en w2 ⟨rfl, hw2⟩; subst hw2))
  go_ret
  exact ⟨rfl, (Below.refl _ _).alloc (Nat.le_refl _) _⟩
theorem compact_nil (i x : Value) (w : World) : Calls Try.prog 24 #[.pointer none, i, x] w (fun e w' => e = .returned (.int .i64 2) ∧ w' = w) := by
  go_enter Try.func24, Try.ntmps24
  go_wp2_with (first | (go_at_call 36; refine (rnone_nil _).mono ?_; rintro en w2 ⟨rfl, rfl⟩))
  go_ret
  exact ⟨rfl, rfl⟩
theorem take_nil (w : World) : Calls Try.prog 23 #[.pointer none] w (fun e w' => e = .returned (.slice none 0 0) ∧ w' = w) := by
  go_enter Try.func23, Try.ntmps23
  go_wp2_with (first | (go_at_call 36; refine (rnone_nil _).mono ?_; rintro en w2 ⟨rfl, rfl⟩))
  go_ret
  exact ⟨rfl, rfl⟩
theorem known_nil (i : Value) (w : World) : Calls Try.prog 18 #[.pointer none, i] w (fun e w' => e = .returned (.slice none 0 0) ∧ w' = w) := by
  go_enter Try.func18, Try.ntmps18
  go_wp2_with (first | (go_at_call 36; refine (rnone_nil _).mono ?_; rintro en w2 ⟨rfl, rfl⟩))
  go_ret
  exact ⟨rfl, rfl⟩
theorem log_nil (w : World) : Calls Try.prog 25 #[.pointer none] w (fun e w' => e = .returned (.agg #[.int .u64 0, .int .i64 0, .int .u64 0, .int .u64 0, .slice none 0 0, .slice none 0 0]) ∧ Below w.heap.size w w') := by
  have h0 := heap_alloc_new w (.cells #[.int .u64 0, .int .i64 0, .int .u64 0, .int .u64 0, .slice none 0 0, .slice none 0 0] 69)
  go_enter Try.func25, Try.ntmps25
  go_wp2_with (first | (go_at_call 36; refine (rnone_nil _).mono ?_; rintro en w2 ⟨rfl, hw2⟩; subst hw2))
  refine bodyPost_ret (results_cell_row rfl _ _ w.heap.size 69 _ (0, 0) _ rfl h0 Try.underlying69 rfl (by kernel_rfl)) rfl ?_
  exact ⟨rfl, (Below.refl _ _).alloc (Nat.le_refl _) _⟩
theorem status_nil (w : World) : Calls Try.prog 17 #[.pointer none] w (fun e w' => e = .returned (.agg #[.int .i64 0, .int .u64 0, .int .i64 0, .int .i64 0, .int .u64 0, .int .u64 0, .int .u64 0]) ∧ Below w.heap.size w w') := by
  have h0 := heap_alloc_new w (.cells #[.int .i64 0, .int .u64 0, .int .i64 0, .int .i64 0, .int .u64 0, .int .u64 0, .int .u64 0] 53)
  go_enter Try.func17, Try.ntmps17
  go_wp2_with (first | (go_at_call 36; refine (rnone_nil _).mono ?_; rintro en w2 ⟨rfl, hw2⟩; subst hw2))
  refine bodyPost_ret (results_cell_row rfl _ _ w.heap.size 53 _ (0, 0) _ rfl h0 Try.underlying53 rfl (by kernel_rfl)) rfl ?_
  exact ⟨rfl, (Below.refl _ _).alloc (Nat.le_refl _) _⟩
end Go.Proofs.Ytdaecndbdinddaa
