/-
  LAYER 12, THE CODE's: copiedIndex; each of a list copied; copied.
-/
import Derived.Test.YtafcbelkhhjcoaaSqn
set_option linter.unusedVariables false
set_option linter.unusedSimpArgs false
set_option maxRecDepth 100000
namespace Go.Proofs.Ytafcbelkhhjcoaa
open Go.RowKit Go.Deep

set_option maxHeartbeats 8000000 in
theorem cpIdx_any {N : Nat → Prop} {w : World} {cs : List Value} {u : Idx} (h : IdxN N w cs u) (hl : u.cols.length ≤ 100) :
    Calls Try.prog 104 #[.agg cs.toArray] w (fun e w' => ∃ vs : List Value, e = .returned (.agg vs.toArray) ∧ Below w.heap.size w w' ∧ IdxN (New w w') w' vs u) := by
  obtain ⟨y2, rfl, ⟨hy2, -⟩, -⟩ := h
  obtain ⟨a2, e2, rfl, h1, h2, -⟩ := zs_cells hy2
  have HY := hid hy2
  have HL := hid hl
  clear hy2 hl
  go_enter Try.func104, Try.ntmps104
  go_upto_region 1 with fail
  have hb := (Below.refl w.heap.size w).alloc (Nat.le_refl _) (.cells #[.int .i64 u.id, .int .i64 u.table, .string ⟨u.name.toArray⟩, .slice a2 u.cols.length e2, .bool u.uniq, .int .i64 u.state, .bool u.bad] 37)
  have hz := heap_alloc_new w (.cells #[.int .i64 u.id, .int .i64 u.table, .string ⟨u.name.toArray⟩, .slice a2 u.cols.length e2, .bool u.uniq, .int .i64 u.state, .bool u.bad] 37)
  have hsz : (w.alloc (.cells #[.int .i64 u.id, .int .i64 u.table, .string ⟨u.name.toArray⟩, .slice a2 u.cols.length e2, .bool u.uniq, .int .i64 u.state, .bool u.bad] 37)).heap.size = w.heap.size + 1 := by simp
  generalize w.alloc (.cells #[.int .i64 u.id, .int .i64 u.table, .string ⟨u.name.toArray⟩, .slice a2 u.cols.length e2, .bool u.uniq, .int .i64 u.state, .bool u.bad] 37) = w1 at *
  have hz2 := heap_alloc_new w1 (.cells #[.int .i64 0, .int .i64 0, .string ⟨#[]⟩, .slice none 0 0, .bool false, .int .i64 0, .bool false] 37)
  have hb2 := hb.alloc hb.size (.cells #[.int .i64 0, .int .i64 0, .string ⟨#[]⟩, .slice none 0 0, .bool false, .int .i64 0, .bool false] 37)
  have hzk := (((Below.refl _ w1).alloc (Nat.le_refl _) (.cells #[.int .i64 0, .int .i64 0, .string ⟨#[]⟩, .slice none 0 0, .bool false, .int .i64 0, .bool false] 37)).block _ (lt_of_block hz)).trans hz
  have hsz2 : (w1.alloc (.cells #[.int .i64 0, .int .i64 0, .string ⟨#[]⟩, .slice none 0 0, .bool false, .int .i64 0, .bool false] 37)).heap.size = w.heap.size + 2 := by simp [hsz]
  rw [hsz] at hz2
  generalize w1.alloc (.cells #[.int .i64 0, .int .i64 0, .string ⟨#[]⟩, .slice none 0 0, .bool false, .int .i64 0, .bool false] 37) = w4 at *
  have HB4 := hid hb2
  have HZ4 := hid hzk
  have HZ2 := hid hz2
  have HSZ := hid hsz2
  clear hb hb2 hz hz2 hzk hsz hsz2
  have z3 := cell_in HZ4.out 3 _ rfl
  have CZ := hid (cloneZ_any w4 (HY.out.old HB4.out) HL.out)
  go_upto_region 2 with (first | (go_at_call 184; refine CZ.out.mono ?_; rintro en w5 ⟨f2, q2, rfl, hb5, hk5⟩; have HB45 := hid hb5; have HB5 := hid (below_step HB4.out hb5); have HK5 := hid hk5; have HZ5 := hid ((hb5.block _ (lt_of_block HZ4.out)).trans HZ4.out); have HR5 := hid ((hb5.block _ (lt_of_block HZ2.out)).trans HZ2.out); clear hb5 hk5 z3; have z3 := cell_in HZ5.out 3 _ rfl; have z3f := free_in HZ5.out 3))
  have HZ6 := hid (put_in HZ5.out 3 (.slice f2 u.cols.length q2))
  have HKe6 : Hid (Keep (fun k => k = w.heap.size) w5 (w5.setCell ⟨w.heap.size, 3, none⟩ (.slice f2 u.cols.length q2))) := hid (Keep.set _ _ _ rfl)
  have HB6 : Hid (Below w.heap.size w (w5.setCell ⟨w.heap.size, 3, none⟩ (.slice f2 u.cols.length q2))) := hid (HB5.out.setCell (Nat.le_refl _) _)
  generalize w5.setCell ⟨w.heap.size, 3, none⟩ (.slice f2 u.cols.length q2) = w6 at *
  clear z3 z3f
  have HR6 := hid ((HKe6.out.block _ (by have := HB45.out.size; have := HSZ.out; omega) (by omega)).trans HR5.out)
  have z0 := cell_in HZ6.out 0 _ rfl
  have z1 := cell_in HZ6.out 1 _ rfl
  have z2 := cell_in HZ6.out 2 _ rfl
  have z3 := cell_in HZ6.out 3 _ rfl
  have z4 := cell_in HZ6.out 4 _ rfl
  have z5 := cell_in HZ6.out 5 _ rfl
  have z6 := cell_in HZ6.out 6 _ rfl
  have r0 := cell_in HR6.out 0 _ rfl
  have r1 := cell_in HR6.out 1 _ rfl
  have r2 := cell_in HR6.out 2 _ rfl
  have r3 := cell_in HR6.out 3 _ rfl
  have r4 := cell_in HR6.out 4 _ rfl
  have r5 := cell_in HR6.out 5 _ rfl
  have r6 := cell_in HR6.out 6 _ rfl
  have r0f := free_in HR6.out 0
  have r1f := free_in HR6.out 1
  have r2f := free_in HR6.out 2
  have r3f := free_in HR6.out 3
  have r4f := free_in HR6.out 4
  have r5f := free_in HR6.out 5
  have r6f := free_in HR6.out 6
  go_wp2_with fail
  obtain ⟨p1, p2⟩ := put7 HR6.out (.int .i64 u.id) (.int .i64 u.table) (.string ⟨u.name.toArray⟩) (.slice f2 u.cols.length q2) (.bool u.uniq) (.int .i64 u.state) (.bool u.bad)
  generalize ((((((w6.setCell ⟨w.heap.size + 1, 0, none⟩ (.int .i64 u.id)).setCell ⟨w.heap.size + 1, 1, none⟩ (.int .i64 u.table)).setCell ⟨w.heap.size + 1, 2, none⟩ (.string ⟨u.name.toArray⟩)).setCell ⟨w.heap.size + 1, 3, none⟩ (.slice f2 u.cols.length q2)).setCell ⟨w.heap.size + 1, 4, none⟩ (.bool u.uniq)).setCell ⟨w.heap.size + 1, 5, none⟩ (.int .i64 u.state)).setCell ⟨w.heap.size + 1, 6, none⟩ (.bool u.bad) = s4 at *
  refine bodyPost_ret (results_cell_row rfl _ _ (w.heap.size + 1) 37 _ (0, 0) _ rfl p1 Try.underlying37 rfl (by kernel_rfl)) rfl ?_
  have e1 := HSZ.out
  have e4 := HB45.out.size
  have e5 := HKe6.out.size
  have e6 := p2.size
  have k54 : Keep (fun k => k = w.heap.size ∨ k = w.heap.size + 1) w5 s4 := (HKe6.out.mono (fun k _ e => Or.inl e)).trans (p2.mono (fun k _ e => Or.inr e))
  refine ⟨_, rfl, HB6.out.trans (p2.below (by omega) (fun k e => by omega)), _, rfl, ?_, rfl⟩
  exact (HK5.out.keep k54 (fun k e e9 => by have := e.1; omega)).mono (fun k e => ⟨by have := e.1; omega, by have := e.2; omega⟩)
end Go.Proofs.Ytafcbelkhhjcoaa
