/-
  THE LAWS' OWN 'awake'; an error's text, whatever error it is.
-/
import Derived.Test.YtombgehopopdfaaDoorMade
import Derived.Test.YtombgehopopdfaaDoorAgain
set_option linter.unusedVariables false
namespace Go.Proofs.YtombgehopopdfaaDoor
open Go.RowKit Go.Extern.Stop Go.Stop Go.Extern

set_option maxHeartbeats 4000000 in
set_option maxRecDepth 100000 in
theorem awake_any (w : World) (hg : Ready w) : Calls Tryd.prog 9 #[] w fun e w' => e = .returned (.bool true) ∧ Below w.heap.size w w' := by
  have h0 := hg.lt
  have hc1 := Chain.first (w := w) 12 h0 ⟨#[115, 104, 97, 114, 100]⟩
  have hc2 := hc1.cons (by simp) ⟨#[116, 120, 110]⟩
  have hB := (((Below.refl w.heap.size w).alloc (Nat.le_refl _) (.cells #[.string ⟨#[115, 104, 97, 114, 100]⟩, .iface 22 (.int .i64 12)] 55)).alloc (by simp) (.cells #[.string ⟨#[116, 120, 110]⟩, .iface 43 (.pointer (some ⟨w.heap.size, 0, none⟩))] 55))
  have HG := hid (hg.kept (Keeps.below hB h0))
  have HC := hid hc2
  have HB := hid hB
  have hsz : (w.alloc (.cells #[.string ⟨#[115, 104, 97, 114, 100]⟩, .iface 22 (.int .i64 12)] 55)).heap.size = w.heap.size + 1 := by simp
  rw [hsz] at hc2
  have HC := hid hc2
  have hT : textL [⟨#[116, 120, 110]⟩, ⟨#[115, 104, 97, 114, 100]⟩] (.code 12) = [116, 120, 110, 58, 32, 115, 104, 97, 114, 100, 58, 32, 108, 111, 99, 107, 101, 100] := by decide
  have HT := hid hT
  have mE := methodErrorF
  clear hc1 hc2 hg hB h0 hsz hT
  go_enter Tryd.func9, Tryd.ntmps9
  go_wp2_with (first
    | (go_at_call 17; refine (new_any 12 (by decide) _ _).mono ?_; rintro e w' ⟨rfl, rfl⟩)
    | (go_at_call 18; refine (wrap_any _ _ _ _).mono ?_; rintro e w' ⟨rfl, rfl⟩)
    | (go_at_call 25; refine (merror_any _ _ (.code 12) _ HC.out (by simp) (by rw [HT.out]; decide)).mono ?_))
  rintro e w1 ⟨he, h1⟩
  rw [HT.out] at he
  subst he
  have hk1 := Keeps.below h1 (by simp)
  have HC1 := hid (HC.out.kept hk1)
  have HG1 := hid (HG.out.kept hk1)
  have H1 := hid h1
  clear h1 hk1
  go_wp2_with (first
    | (go_at_call 10; refine (code_any _ _ (.code 12) _ HG1.out HC1.out).mono ?_))
  rintro e w2 ⟨rfl, h2⟩
  have H2 := hid h2
  clear h2
  go_wp2_with (first
    | (go_at_call 23; refine (again_any 12 _).mono ?_; rintro e w' ⟨rfl, rfl⟩))
  go_ret
  exact ⟨rfl, HB.out.trans ((H1.out.mono (by simp; omega)).trans (H2.out.mono (by have := H1.out.size; simp at this; omega)))⟩
end Go.Proofs.YtombgehopopdfaaDoor
