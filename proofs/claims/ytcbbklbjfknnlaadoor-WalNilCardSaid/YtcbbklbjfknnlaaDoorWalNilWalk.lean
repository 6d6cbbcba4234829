/-
  THE LAW WalNil: its walk.
-/
import Derived.Test.YtcbbklbjfknnlaaDoorWv
set_option linter.unusedVariables false
set_option maxRecDepth 100000
namespace Go.Proofs.YtcbbklbjfknnlaaDoor.walNil
open Go.RowKit

theorem walk {H : Type} {enc : TypeId × Value → H} {base : Nat} {d : DataW H} {p : List MemPlace} (x : Value) (y : Int) (w : World) (_ : Value.okWide Tryd.prog w .any base 32 x) (_ : DataW.Trod enc Tryd.prog w 0 (fun _ => true) true 32 x d p) (_ : (Lit.int .u64 y).wf = true) : Calls Tryd.prog 5 #[x, .int .u64 y] w (AnsP w (.bool true)) := by
  have hl := fun V => run_len_slice (P := Tryd.prog) V 22 3 none 0 0 Tryd.underlying22
  go_enter Tryd.func5, Tryd.ntmps5
  go_wp2_with (first
    | (go_at_call 8; refine (wopen_nil _).mono ?_; rintro e w2 ⟨rfl, rfl⟩)
    | (go_at_call 9; refine (wawake_any _).mono ?_; rintro e w3 ⟨rfl, hb⟩))
  have HB := hid hb
  clear hb
  go_wp2_with (first
    | (go_at_call 11; refine (wappend_nil _ _).mono ?_; rintro e w2 ⟨rfl, rfl⟩)
    | (go_at_call 12; refine (wsync_nil _).mono ?_; rintro e w2 ⟨rfl, rfl⟩)
    | (go_at_call 20; refine (wcut_nil _ _).mono ?_; rintro e w2 ⟨rfl, rfl⟩)
    | (go_at_call 16; refine (wfirst_nil _).mono ?_; rintro e w2 ⟨rfl, rfl⟩)
    | (go_at_call 15; refine (wnext_nil _).mono ?_; rintro e w2 ⟨rfl, rfl⟩)
    | (go_at_call 18; refine (wrecords_nil _).mono ?_; rintro e w2 ⟨rfl, rfl⟩))
  go_ret
  exact ⟨rfl, HB.out⟩
end Go.Proofs.YtcbbklbjfknnlaaDoor.walNil
