/-
  THE LAW DiskNil: its walk.
-/
import Derived.Test.YthefklmfnokhiaaDa
set_option linter.unusedVariables false
set_option maxRecDepth 100000
namespace Go.Proofs.Ythefklmfnokhiaa
open Go.RowKit

namespace diskNil
set_option maxHeartbeats 8000000 in
theorem walk0 (z : Int) (v1 v2 : Value) (w : World) : Calls Try.prog 5 #[.int .i64 z, v1, v2] w (AnsP w (.bool true)) := by
  have CR : Hid (Calls Try.prog 10 #[.pointer none, .int .i64 z] w (fun e w' => e = .returned (.tuple #[.slice none 0 0, .int .i64 2]) ∧ w' = w)) := read_nil z w
  have hl := fun V => run_len_slice (P := Try.prog) V 30 3 none 0 0 Try.underlying30
  go_enter Try.func5, Try.ntmps5
  go_wp2_with (first | (go_at_call 10; refine CR.out.mono ?_))
  rintro e w1 ⟨rfl, rfl⟩
  go_wp2_with (first | (go_at_call 8; refine (awake_any w1).mono ?_))
  rintro e w2 ⟨rfl, hb⟩
  have HB := hid hb
  clear hb CR
  go_wp2_with (first
    | (go_at_call 24; refine (write_nil _ _ _).mono ?_; rintro e w3 ⟨rfl, rfl⟩)
    | (go_at_call 14; refine (flush_nil _).mono ?_; rintro e w3 ⟨rfl, rfl⟩)
    | (go_at_call 16; refine (arm_nil _ _).mono ?_; rintro e w3 ⟨rfl, rfl⟩)
    | (go_at_call 19; refine (crash_nil _ _).mono ?_; rintro e w3 ⟨rfl, rfl⟩)
    | (go_at_call 22; refine (start_nil _).mono ?_; rintro e w3 ⟨rfl, rfl⟩)
    | (go_at_call 29; refine (down_nil _).mono ?_; rintro e w3 ⟨rfl, rfl⟩)
    | (go_at_call 30; refine (waiting_nil _).mono ?_; rintro e w3 ⟨rfl, rfl⟩)
    | (go_at_call 31; refine (size_nil _).mono ?_; rintro e w3 ⟨rfl, rfl⟩)
    | (go_at_call 23; refine (fork_nil _).mono ?_; rintro e w3 ⟨rfl, rfl⟩))
  go_ret
  exact ⟨rfl, HB.out⟩

theorem walk {H : Type} {enc : TypeId × Value → H} {base : Nat} {d1 d2 : DataW H} {p1 p2 : List MemPlace} (z : Int) (v1 v2 : Value) (w : World) (w0 : (Lit.int .i64 z).wf = true)
    (k1 : Value.okWide Try.prog w .any base 30 v1) (t1 : DataW.Trod enc Try.prog w 0 (fun _ => true) true 30 v1 d1 p1)
    (k2 : Value.okWide Try.prog w .any base 31 v2) (t2 : DataW.Trod enc Try.prog w 0 (fun _ => true) true 31 v2 d2 p2) :
    Calls Try.prog 5 #[.int .i64 z, v1, v2] w fun e w' => e = .returned (.bool true) ∧ Below w.heap.size w w' := walk0 z v1 v2 w
end diskNil
end Go.Proofs.Ythefklmfnokhiaa
