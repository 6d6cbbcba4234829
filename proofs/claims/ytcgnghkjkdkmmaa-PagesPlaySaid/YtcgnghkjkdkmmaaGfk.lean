/-
  PAGES: Fork.
-/
import Derived.Test.YtcgnghkjkdkmmaaGmk
set_option linter.unusedVariables false
namespace Go.Proofs.Ytcgnghkjkdkmmaa
open Go.RowKit Go.Shelf

set_option maxRecDepth 100000 in
theorem fork_nil (w : World) : Calls Try.prog 18 #[.pointer none] w (fun e w' => e = .returned (.pointer none) ∧ w' = w) := by
  go_enter Try.func18, Try.ntmps18
  go_wp2_with fail
  go_ret
  exact ⟨rfl, rfl⟩

set_option maxHeartbeats 2000000 in
set_option maxRecDepth 100000 in
theorem fork_any (base mb : Nat) (v : Value) (G : List Pg) (w : World) (hM : Mp base w mb v G) (hn : G.length ≤ 1000000) :
    Calls Try.prog 18 #[.pointer (some ⟨mb, 0, none⟩)] w (fun e w' => ∃ mb2 y, e = .returned (.pointer (some ⟨mb2, 0, none⟩)) ∧ Mp w.heap.size w' mb2 y G ∧ Below w.heap.size w w') := by
  obtain ⟨ao, c, rfl, -⟩ := hM.pgs.form
  have c0 : w.cell? ⟨mb, 0, none⟩ = some (.slice ao G.length c) := by simp [World.cell?, hM.hd]
  have C := cloneG_any _ G w hM.pgs hn
  have HM := hid hM
  clear hM
  go_enter Try.func18, Try.ntmps18
  go_wp2_with (first | (go_at_call 35; refine C.mono ?_))
  rintro e w1 ⟨y, rfl, ho, hb⟩
  obtain ⟨yo, yn, yc, rfl⟩ := own_slice ho
  have HO := hid ho
  have HB := hid hb
  clear ho hb C c0
  go_wp2_with fail
  go_ret
  have hlt : ∀ k, (Value.slice yo yn yc).ownBlock = some k → w.heap.size ≤ k ∧ k < w1.heap.size := fun k hk => HO.out.lt k hk
  refine ⟨w1.heap.size, _, rfl, ⟨HB.out.size, heap_alloc_new _ _, ?_, fun e9 => ?_, fun g hg => ((HM.out.each g hg).old HB.out).old ((Below.refl _ _).alloc (Nat.le_refl _) _), fun g hg => ?_⟩, HB.out.alloc HB.out.size _⟩
  · exact own_old HO.out ((Below.refl _ _).alloc (Nat.le_refl _) _)
  · have := (hlt _ e9).2; omega
  · refine (HM.out.each g hg).offnew (fun k hk => ?_)
    rcases hk with e9 | e9
    · subst e9; exact HB.out.size
    · exact (hlt k e9).1
end Go.Proofs.Ytcgnghkjkdkmmaa
