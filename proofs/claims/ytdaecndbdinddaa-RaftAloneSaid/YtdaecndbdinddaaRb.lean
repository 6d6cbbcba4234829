/-
  RAFT: slices.Sort of one number.
-/
import Derived.Test.YtdaecndbdinddaaChecked
import Derived.WalkKit
import Derived.WalkSpells
import Derived.WalkLawsBesides
set_option linter.unusedVariables false
set_option linter.unusedSimpArgs false
set_option maxRecDepth 100000
namespace Go.Proofs.Ytdaecndbdinddaa
open Go.RowKit

theorem len64_1 (w : World) : Calls Try.prog 101 #[.int .u64 1] w (fun e w' => e = .returned (.int .i64 1) ∧ w' = w) := by
  go_enter Try.func101, Try.ntmps101
  go_wp2_with fail
  go_ret
  exact ⟨congrArg (fun z => Ending.returned (Value.int .i64 z)) (by kernel_rfl), rfl⟩
theorem bitsLen_1 (w : World) : Calls Try.prog 89 #[.int .u64 1] w (fun e w' => e = .returned (.int .i64 1) ∧ w' = w) := by
  go_enter Try.func89, Try.ntmps89
  go_wp2_with (first | (go_at_call 101; refine (len64_1 _).mono ?_; rintro en w2 ⟨rfl, rfl⟩))
  go_ret
  exact ⟨rfl, rfl⟩
theorem insertion_1 (x : Value) (w : World) : Calls Try.prog 91 #[x, .int .i64 0, .int .i64 1] w (fun e w' => e = .returned (.tuple #[]) ∧ w' = w) := by
  go_enter Try.func91, Try.ntmps91
  go_wp2_with fail
  go_loopw [6] (fun i wr => i = .int .i64 1 ∧ wr = w) (fun i _ => 1 - (intOf i).toNat)
  case atStart => exact ⟨rfl, rfl⟩
  case round =>
    obtain ⟨rfl, rfl⟩ := hrel
    go_wp2_with fail
    go_end0
    exact ⟨rfl, rfl⟩
theorem pdq_1 (x : Value) (w : World) : Calls Try.prog 88 #[x, .int .i64 0, .int .i64 1, .int .i64 1] w (fun e w' => e = .returned (.tuple #[]) ∧ w' = w) := by
  go_enter Try.func88, Try.ntmps88
  go_wp2_with fail
  go_loopw [1, 2, 3, 8, 9] (fun a b lm wb wp wr => a = .int .i64 0 ∧ b = .int .i64 1 ∧ wr = w) (fun _ _ _ _ _ _ => 0)
  case atStart => exact ⟨rfl, rfl, rfl⟩
  case round =>
    obtain ⟨rfl, rfl, rfl⟩ := hrel
    go_wp2_with (first | (go_at_call 91; refine (insertion_1 _ _).mono ?_; rintro en w2 ⟨rfl, rfl⟩))
    ((try simp only [Exit.inBlock, Exit.then]); refine bodyPost_ret (results_none rfl _ _ _) rfl ?_)
    exact ⟨rfl, rfl⟩
theorem sort_1 (a : Option Addr) (c : Nat) (w : World) : Calls Try.prog 79 #[.slice a 1 c] w (fun e w' => e = .returned (.tuple #[]) ∧ w' = w) := by
  have hlen := fun W => run_len_slice (P := Try.prog) W 42 3 a 1 c Try.underlying42
  go_enter Try.func79, Try.ntmps79
  go_wp2_with (first
    | (go_at_call 89; refine (bitsLen_1 _).mono ?_; rintro en w2 ⟨rfl, rfl⟩)
    | (go_at_call 88; refine (pdq_1 _ _).mono ?_; rintro en w2 ⟨rfl, rfl⟩))
  go_end0
  exact ⟨rfl, rfl⟩
end Go.Proofs.Ytdaecndbdinddaa
