/-
  THE CODE's CMP: two values, two lists.
-/
import Derived.Test.YtacmidfcocjdjaaTCmp
namespace Go.Proofs.Ytacmidfcocjdjaa
open Go.RowKit

theorem below_alloc {w W : World} (h : Below w.heap.size w W) (o : Obj) : Below w.heap.size w (W.alloc o) := h.alloc h.size o

set_option maxHeartbeats 4000000 in
set_option maxRecDepth 100000 in
theorem compareV_any (x y : Vl) (w : World) : Calls Try.prog 39 #[sv x, sv y] w (Ans w (.int .i64 (cmpV x y))) := by
  have BA := (Below.refl w.heap.size w).alloc (Nat.le_refl _) (.cells #[.int .i64 x.k, .int .i64 x.i, .string ⟨x.s.toArray⟩] 24)
  have hsz : (w.alloc (.cells #[.int .i64 x.k, .int .i64 x.i, .string ⟨x.s.toArray⟩] 24)).heap.size = w.heap.size + 1 := by simp
  have BB := BA.alloc BA.size (.cells #[.int .i64 y.k, .int .i64 y.i, .string ⟨y.s.toArray⟩] 24)
  have hA : ((w.alloc (.cells #[.int .i64 x.k, .int .i64 x.i, .string ⟨x.s.toArray⟩] 24)).alloc (.cells #[.int .i64 y.k, .int .i64 y.i, .string ⟨y.s.toArray⟩] 24)).heap[w.heap.size]? = some (.cells #[.int .i64 x.k, .int .i64 x.i, .string ⟨x.s.toArray⟩] 24 (0, 0)) := alloc_old (heap_alloc_new _ _)
  have hB : ((w.alloc (.cells #[.int .i64 x.k, .int .i64 x.i, .string ⟨x.s.toArray⟩] 24)).alloc (.cells #[.int .i64 y.k, .int .i64 y.i, .string ⟨y.s.toArray⟩] 24)).heap[w.heap.size + 1]? = some (.cells #[.int .i64 y.k, .int .i64 y.i, .string ⟨y.s.toArray⟩] 24 (0, 0)) := by
    rw [← hsz]; exact heap_alloc_new _ _
  unfold sv
  have HSZ := hid hsz
  clear hsz
  go_enter Try.func39, Try.ntmps39
  go_wp2_with fail
  generalize (w.alloc (.cells #[.int .i64 x.k, .int .i64 x.i, .string ⟨x.s.toArray⟩] 24)).alloc (.cells #[.int .i64 y.k, .int .i64 y.i, .string ⟨y.s.toArray⟩] 24) = x2 at *
  have HB0 := hid BB
  have HA1 : Hid (w.heap.size < x2.heap.size) := lt_of_block hA
  have HB1 : Hid (w.heap.size + 1 < x2.heap.size) := lt_of_block hB
  have HA2 := hid hA
  have HB2 := hid hB
  clear hA hB BA BB
  have HKp : Hid (∀ W, Below x2.heap.size x2 W → (Below x2.heap.size x2 W ∧ W.cell? ⟨w.heap.size, 0, none⟩ = some (.int .i64 x.k) ∧ W.cell? ⟨w.heap.size, 1, none⟩ = some (.int .i64 x.i) ∧ W.cell? ⟨w.heap.size, 2, none⟩ = some (.string ⟨x.s.toArray⟩) ∧
      W.cell? ⟨w.heap.size + 1, 0, none⟩ = some (.int .i64 y.k) ∧ W.cell? ⟨w.heap.size + 1, 1, none⟩ = some (.int .i64 y.i) ∧ W.cell? ⟨w.heap.size + 1, 2, none⟩ = some (.string ⟨y.s.toArray⟩))) := fun W hW => by
    obtain ⟨q1, q2, q3⟩ := three_cells ((hW.block w.heap.size HA1.out).trans HA2.out)
    exact ⟨hW, q1, q2, q3, three_cells ((hW.block (w.heap.size + 1) HB1.out).trans HB2.out)⟩
  have K1 : Hid (∀ W, Below x2.heap.size x2 W → Calls Try.prog 48 #[.int .i64 x.k, .int .i64 y.k] W fun e w' => e = .returned (.int .i64 (cmpI x.k y.k)) ∧ Below x2.heap.size x2 w') := fun W hW => (compare1_any _ _ W).mono fun e w' ⟨h1, h2⟩ => ⟨h1, by rw [h2]; exact hW⟩
  have K2 : Hid (∀ W, Below x2.heap.size x2 W → Calls Try.prog 49 #[.int .i64 x.i, .int .i64 y.i] W fun e w' => e = .returned (.int .i64 (cmpI x.i y.i)) ∧ Below x2.heap.size x2 w') := fun W hW => (compare2_any _ _ W).mono fun e w' ⟨h1, h2⟩ => ⟨h1, by rw [h2]; exact hW⟩
  have K3 : Hid (∀ W, Below x2.heap.size x2 W → Calls Try.prog 50 #[.string ⟨x.s.toArray⟩, .string ⟨y.s.toArray⟩] W fun e w' => e = .returned (.int .i64 (Lib.compareBytes x.s y.s)) ∧ Below x2.heap.size x2 w') := fun W hW => (compareS_any _ _ W).mono fun e w' ⟨h1, h2⟩ => ⟨h1, by rw [h2]; exact hW⟩
  have K4 : Hid (∀ W, Below x2.heap.size x2 W → Calls Try.prog 47 #[.slice (some ⟨W.heap.size, 0, none⟩) 3 3] (W.alloc (.cells #[.int .i64 (cmpI x.k y.k), .int .i64 (cmpI x.i y.i), .int .i64 (Lib.compareBytes x.s y.s)] 3)) fun e w' => e = .returned (.int .i64 (cmpV x y)) ∧ Below x2.heap.size x2 w') := fun W hW =>
    (or_any _ _ _ W.heap.size _ (heap_alloc_new _ _)).mono fun e w' ⟨h1, h2⟩ => ⟨by rw [h1, or_cmp], by rw [h2]; exact below_alloc hW _⟩
  have hb0 : Below x2.heap.size x2 x2 := Below.refl _ _
  obtain ⟨-, d1, d2, d3, e1, e2, e3⟩ := HKp.out _ hb0
  go_region_held3 (fun W => Below x2.heap.size x2 W ∧ W.cell? ⟨w.heap.size, 0, none⟩ = some (.int .i64 x.k) ∧ W.cell? ⟨w.heap.size, 1, none⟩ = some (.int .i64 x.i) ∧ W.cell? ⟨w.heap.size, 2, none⟩ = some (.string ⟨x.s.toArray⟩) ∧
      W.cell? ⟨w.heap.size + 1, 0, none⟩ = some (.int .i64 y.k) ∧ W.cell? ⟨w.heap.size + 1, 1, none⟩ = some (.int .i64 y.i) ∧ W.cell? ⟨w.heap.size + 1, 2, none⟩ = some (.string ⟨y.s.toArray⟩))
    (first | (go_split_ands; first | exact HKp.out _ (by assumption) | exact HKp.out _ (Below.drew (by assumption)) | exact HKp.out _ (below_alloc (by assumption) _)) | go_keep)
    (first
      | (go_at_call 48; go_split_ands; refine (K1.out _ (by assumption)).mono ?_; rintro e wa ⟨rfl, ha⟩)
      | (go_at_call 49; go_split_ands; refine (K2.out _ (by assumption)).mono ?_; rintro e wa ⟨rfl, ha⟩)
      | (go_at_call 50; go_split_ands; refine (K3.out _ (by assumption)).mono ?_; rintro e wa ⟨rfl, ha⟩)
      | (go_at_call 47; go_split_ands; refine (K4.out _ (by assumption)).mono ?_; rintro e wa ⟨rfl, ha⟩))
  all_goals (go_wp2_with fail)
  all_goals go_ret
  all_goals (go_split_ands; exact ⟨rfl, stepB HB0.out (by assumption)⟩)
end Go.Proofs.Ytacmidfcocjdjaa
