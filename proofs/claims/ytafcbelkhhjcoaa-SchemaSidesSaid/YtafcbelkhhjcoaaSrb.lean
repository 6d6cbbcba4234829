/-
  LAYER 12, THE CODE's: Table, Index (made by src2/gen_stab.py); the law's small.
-/
import Derived.Test.YtafcbelkhhjcoaaSqr
set_option linter.unusedVariables false
set_option linter.unusedSimpArgs false
set_option maxRecDepth 100000
namespace Go.Proofs.Ytafcbelkhhjcoaa
open Go.RowKit Go.Deep


set_option maxHeartbeats 8000000 in
theorem schTable_any {N : Nat → Prop} {w : World} {cs : List Value} {C : Cat} (h : CatN N w cs C) (hS : ∀ t ∈ C.tabs, t.cols.length ≤ 100 ∧ t.key.length ≤ 100) (s : List UInt8) : Calls Try.prog 19 #[.agg cs.toArray, .string ⟨s.toArray⟩] w
    (fun e w' => ∃ vs : List Value, e = .returned (.tuple #[.agg vs.toArray, .bool (C.tabs.find? (fun t => decide (t.name = s))).isSome]) ∧ Below w.heap.size w w' ∧ TabN (New w w') w' vs ((C.tabs.find? (fun t => decide (t.name = s))).getD tab0)) := by
  have HH := hid h
  obtain ⟨x, y, rfl, hx, hy, -, -⟩ := h
  obtain ⟨ao, c, rfl, h1, h2, tc⟩ := tb_cells hx
  obtain ⟨ko, d, rfl, g1, g2, gc⟩ := ix_cells hy
  have hlm : C.tabs.length ≤ 9223372036854775807 := by unfold maxLen at h2; omega
  have hkm : C.idxs.length ≤ 9223372036854775807 := by unfold maxLen at g2; omega
  have HT := hid tc
  have HC := hid gc
  have HS := hid hS
  clear hx hy tc gc hS
  go_enter Try.func19, Try.ntmps19
  go_upto_region 1 with fail
  have hb := (Below.refl w.heap.size w).alloc (Nat.le_refl _) (.cells #[.int .i64 C.ver, .int .i64 C.nxt, .slice ao C.tabs.length c, .slice ko C.idxs.length d] 25)
  have hz := heap_alloc_new w (.cells #[.int .i64 C.ver, .int .i64 C.nxt, .slice ao C.tabs.length c, .slice ko C.idxs.length d] 25)
  have hsz : (w.alloc (.cells #[.int .i64 C.ver, .int .i64 C.nxt, .slice ao C.tabs.length c, .slice ko C.idxs.length d] 25)).heap.size = w.heap.size + 1 := by simp
  generalize w.alloc (.cells #[.int .i64 C.ver, .int .i64 C.nxt, .slice ao C.tabs.length c, .slice ko C.idxs.length d] 25) = w1 at *
  have hz2 := heap_alloc_new w1 (.cells #[.int .i64 0, .string ⟨#[]⟩, .slice none 0 0, .slice none 0 0] 33)
  have hb2 := hb.alloc hb.size (.cells #[.int .i64 0, .string ⟨#[]⟩, .slice none 0 0, .slice none 0 0] 33)
  have hzk := (((Below.refl _ w1).alloc (Nat.le_refl _) (.cells #[.int .i64 0, .string ⟨#[]⟩, .slice none 0 0, .slice none 0 0] 33)).block _ (lt_of_block hz)).trans hz
  have hsz2 : (w1.alloc (.cells #[.int .i64 0, .string ⟨#[]⟩, .slice none 0 0, .slice none 0 0] 33)).heap.size = w.heap.size + 2 := by simp [hsz]
  rw [hsz] at hz2
  generalize w1.alloc (.cells #[.int .i64 0, .string ⟨#[]⟩, .slice none 0 0, .slice none 0 0] 33) = w2 at *
  have HB2 := hid hb2
  have HZ2 := hid hzk
  have HR2 := hid hz2
  have HSZ := hid hsz2
  clear hb hb2 hz hz2 hzk hsz hsz2
  have z0 := cell_in HZ2.out 0 _ rfl
  have z1 := cell_in HZ2.out 1 _ rfl
  have z2 := cell_in HZ2.out 2 _ rfl
  have z3 := cell_in HZ2.out 3 _ rfl
  have CA := hid (tableAt_any (HH.out.old HB2.out) s)
  have FC := fidx_cases (fun t => decide (t.name = s)) C.tabs
  rcases FC with ⟨f1, f2, -⟩ | ⟨m, u, f1, f2, f3, f4, f5⟩
  case inl =>
    rw [f1] at CA
    have HF2 := hid f2
    clear f1 f2
    go_wp2_with (first | (go_at_call 101; refine CA.out.mono ?_; rintro en w3 ⟨rfl, hb3⟩; have HB3 := hid (below_step HB2.out hb3); have HR3 := hid ((hb3.block _ (lt_of_block HR2.out)).trans HR2.out); clear hb3 z0 z1 z2 z3; have r0 := cell_in HR3.out 0 _ rfl; have r0f := free_in HR3.out 0; have r1 := cell_in HR3.out 1 _ rfl; have r1f := free_in HR3.out 1; have r2 := cell_in HR3.out 2 _ rfl; have r2f := free_in HR3.out 2; have r3 := cell_in HR3.out 3 _ rfl; have r3f := free_in HR3.out 3))
    obtain ⟨p1, p2⟩ := put4 HR3.out (.int .i64 0) (.string ⟨#[]⟩) (.slice none 0 0) (.slice none 0 0)
    generalize (((w3.setCell ⟨w.heap.size + 1, 0, none⟩ (.int .i64 0)).setCell ⟨w.heap.size + 1, 1, none⟩ (.string ⟨#[]⟩)).setCell ⟨w.heap.size + 1, 2, none⟩ (.slice none 0 0)).setCell ⟨w.heap.size + 1, 3, none⟩ (.slice none 0 0) = s4 at *
    refine bodyPost_ret (results_cell2 rfl _ _ (w.heap.size + 1) 33 _ (0, 0) _ rfl p1 Try.underlying33 rfl (by kernel_rfl)) rfl ?_
    rw [HF2.out]
    exact ⟨[.int .i64 0, .string ⟨#[]⟩, .slice none 0 0, .slice none 0 0], rfl, HB3.out.trans (p2.below HB3.out.size (fun k e => by have e8 : k = w.heap.size + 1 := e; omega)), TabN.zero _ _⟩
  have hm0 : ¬ (m : Int) < 0 := by omega
  have HF3 := hid f3
  have hmi : (m : Int) < (C.tabs.length : Int) := by have := (List.getElem?_eq_some_iff.1 f2).1; omega
  rw [f1] at CA
  obtain ⟨b, off, a1, e1, a2, e2, rfl, ht, c0, c1, c2, c3⟩ := HT.out m u f2
  have HSU := hid (HS.out u (List.mem_of_getElem? f2))
  have HTN := hid ht
  clear f1 f2 f3 f4 f5 ht
  have HC0 := hid c0
  have HC1 := hid c1
  have HC2 := hid c2
  have HC3 := hid c3
  clear c0 c1 c2 c3
  go_upto_region 4 with (first | (go_at_call 101; refine CA.out.mono ?_; rintro en w3 ⟨rfl, hb3⟩; have HB3 := hid (below_step HB2.out hb3); have HZ3 := hid ((hb3.block _ (lt_of_block HZ2.out)).trans HZ2.out); have HR3 := hid ((hb3.block _ (lt_of_block HR2.out)).trans HR2.out); clear hb3 z0 z1 z2 z3))
  have z2 := cell_in HZ3.out 2 _ rfl
  have k0 := (HB3.out.cell (block_cell HC0.out)).trans HC0.out
  have k1 := (HB3.out.cell (block_cell HC1.out)).trans HC1.out
  have k2 := (HB3.out.cell (block_cell HC2.out)).trans HC2.out
  have k3 := (HB3.out.cell (block_cell HC3.out)).trans HC3.out
  have CP := hid (cpTab_any (HTN.out.old HB3.out) HSU.out)
  go_wp2_with (first | (go_at_call 102; refine CP.out.mono ?_; rintro en w4 ⟨vs, rfl, hb4, hk4⟩; obtain ⟨f1, q1, f2, q2, rfl⟩ := tab_form hk4; have HB34 := hid hb4; have HB4 := hid (below_step HB3.out hb4); have HK4 := hid hk4; have HR4 := hid ((hb4.block _ (lt_of_block HR3.out)).trans HR3.out); clear hb4 hk4 z2 k0 k1 k2 k3; have r0 := cell_in HR4.out 0 _ rfl; have r0f := free_in HR4.out 0; have r1 := cell_in HR4.out 1 _ rfl; have r1f := free_in HR4.out 1; have r2 := cell_in HR4.out 2 _ rfl; have r2f := free_in HR4.out 2; have r3 := cell_in HR4.out 3 _ rfl; have r3f := free_in HR4.out 3))
  obtain ⟨p1, p2⟩ := put4 HR4.out (.int .i64 u.id) (.string ⟨u.name.toArray⟩) (.slice f1 u.cols.length q1) (.slice f2 u.key.length q2)
  generalize (((w4.setCell ⟨w.heap.size + 1, 0, none⟩ (.int .i64 u.id)).setCell ⟨w.heap.size + 1, 1, none⟩ (.string ⟨u.name.toArray⟩)).setCell ⟨w.heap.size + 1, 2, none⟩ (.slice f1 u.cols.length q1)).setCell ⟨w.heap.size + 1, 3, none⟩ (.slice f2 u.key.length q2) = s4 at *
  refine bodyPost_ret (results_cell2 rfl _ _ (w.heap.size + 1) 33 _ (0, 0) _ rfl p1 Try.underlying33 rfl (by kernel_rfl)) rfl ?_
  have e1 := HSZ.out
  have e2 := HB3.out.size
  have e3 := p2.size
  have e4 := HR3.out
  have e5 := lt_of_block e4
  rw [HF3.out]
  exact ⟨_, rfl, HB4.out.trans (p2.below HB4.out.size (fun k e => by have e8 : k = w.heap.size + 1 := e; omega)), (HK4.out.keep p2 (fun k e e9 => by have e8 : k = w.heap.size + 1 := e9; have := e.1; omega)).mono (fun k e => ⟨by have := e.1; omega, by have := e.2; omega⟩)⟩


set_option maxHeartbeats 8000000 in
theorem schIndex_any {N : Nat → Prop} {w : World} {cs : List Value} {C : Cat} (h : CatN N w cs C) (hS : ∀ t ∈ C.idxs, t.cols.length ≤ 100) (s : List UInt8) : Calls Try.prog 21 #[.agg cs.toArray, .string ⟨s.toArray⟩] w
    (fun e w' => ∃ vs : List Value, e = .returned (.tuple #[.agg vs.toArray, .bool (C.idxs.find? (fun t => decide (t.name = s))).isSome]) ∧ Below w.heap.size w w' ∧ IdxN (New w w') w' vs ((C.idxs.find? (fun t => decide (t.name = s))).getD idx0)) := by
  have HH := hid h
  obtain ⟨x, y, rfl, hx, hy, -, -⟩ := h
  obtain ⟨ao, c, rfl, h1, h2, tc⟩ := tb_cells hx
  obtain ⟨ko, d, rfl, g1, g2, gc⟩ := ix_cells hy
  have hlm : C.tabs.length ≤ 9223372036854775807 := by unfold maxLen at h2; omega
  have hkm : C.idxs.length ≤ 9223372036854775807 := by unfold maxLen at g2; omega
  have HT := hid tc
  have HC := hid gc
  have HS := hid hS
  clear hx hy tc gc hS
  go_enter Try.func21, Try.ntmps21
  go_upto_region 1 with fail
  have hb := (Below.refl w.heap.size w).alloc (Nat.le_refl _) (.cells #[.int .i64 C.ver, .int .i64 C.nxt, .slice ao C.tabs.length c, .slice ko C.idxs.length d] 25)
  have hz := heap_alloc_new w (.cells #[.int .i64 C.ver, .int .i64 C.nxt, .slice ao C.tabs.length c, .slice ko C.idxs.length d] 25)
  have hsz : (w.alloc (.cells #[.int .i64 C.ver, .int .i64 C.nxt, .slice ao C.tabs.length c, .slice ko C.idxs.length d] 25)).heap.size = w.heap.size + 1 := by simp
  generalize w.alloc (.cells #[.int .i64 C.ver, .int .i64 C.nxt, .slice ao C.tabs.length c, .slice ko C.idxs.length d] 25) = w1 at *
  have hz2 := heap_alloc_new w1 (.cells #[.int .i64 0, .int .i64 0, .string ⟨#[]⟩, .slice none 0 0, .bool false, .int .i64 0, .bool false] 37)
  have hb2 := hb.alloc hb.size (.cells #[.int .i64 0, .int .i64 0, .string ⟨#[]⟩, .slice none 0 0, .bool false, .int .i64 0, .bool false] 37)
  have hzk := (((Below.refl _ w1).alloc (Nat.le_refl _) (.cells #[.int .i64 0, .int .i64 0, .string ⟨#[]⟩, .slice none 0 0, .bool false, .int .i64 0, .bool false] 37)).block _ (lt_of_block hz)).trans hz
  have hsz2 : (w1.alloc (.cells #[.int .i64 0, .int .i64 0, .string ⟨#[]⟩, .slice none 0 0, .bool false, .int .i64 0, .bool false] 37)).heap.size = w.heap.size + 2 := by simp [hsz]
  rw [hsz] at hz2
  generalize w1.alloc (.cells #[.int .i64 0, .int .i64 0, .string ⟨#[]⟩, .slice none 0 0, .bool false, .int .i64 0, .bool false] 37) = w2 at *
  have HB2 := hid hb2
  have HZ2 := hid hzk
  have HR2 := hid hz2
  have HSZ := hid hsz2
  clear hb hb2 hz hz2 hzk hsz hsz2
  have z0 := cell_in HZ2.out 0 _ rfl
  have z1 := cell_in HZ2.out 1 _ rfl
  have z2 := cell_in HZ2.out 2 _ rfl
  have z3 := cell_in HZ2.out 3 _ rfl
  have CA := hid (indexAt_any (HH.out.old HB2.out) s)
  have FC := fidx_cases (fun t => decide (t.name = s)) C.idxs
  rcases FC with ⟨f1, f2, -⟩ | ⟨m, u, f1, f2, f3, f4, f5⟩
  case inl =>
    rw [f1] at CA
    have HF2 := hid f2
    clear f1 f2
    go_wp2_with (first | (go_at_call 103; refine CA.out.mono ?_; rintro en w3 ⟨rfl, hb3⟩; have HB3 := hid (below_step HB2.out hb3); have HR3 := hid ((hb3.block _ (lt_of_block HR2.out)).trans HR2.out); clear hb3 z0 z1 z2 z3; have r0 := cell_in HR3.out 0 _ rfl; have r0f := free_in HR3.out 0; have r1 := cell_in HR3.out 1 _ rfl; have r1f := free_in HR3.out 1; have r2 := cell_in HR3.out 2 _ rfl; have r2f := free_in HR3.out 2; have r3 := cell_in HR3.out 3 _ rfl; have r3f := free_in HR3.out 3; have r4 := cell_in HR3.out 4 _ rfl; have r4f := free_in HR3.out 4; have r5 := cell_in HR3.out 5 _ rfl; have r5f := free_in HR3.out 5; have r6 := cell_in HR3.out 6 _ rfl; have r6f := free_in HR3.out 6))
    obtain ⟨p1, p2⟩ := put7 HR3.out (.int .i64 0) (.int .i64 0) (.string ⟨#[]⟩) (.slice none 0 0) (.bool false) (.int .i64 0) (.bool false)
    generalize ((((((w3.setCell ⟨w.heap.size + 1, 0, none⟩ (.int .i64 0)).setCell ⟨w.heap.size + 1, 1, none⟩ (.int .i64 0)).setCell ⟨w.heap.size + 1, 2, none⟩ (.string ⟨#[]⟩)).setCell ⟨w.heap.size + 1, 3, none⟩ (.slice none 0 0)).setCell ⟨w.heap.size + 1, 4, none⟩ (.bool false)).setCell ⟨w.heap.size + 1, 5, none⟩ (.int .i64 0)).setCell ⟨w.heap.size + 1, 6, none⟩ (.bool false) = s4 at *
    refine bodyPost_ret (results_cell2 rfl _ _ (w.heap.size + 1) 37 _ (0, 0) _ rfl p1 Try.underlying37 rfl (by kernel_rfl)) rfl ?_
    rw [HF2.out]
    exact ⟨[.int .i64 0, .int .i64 0, .string ⟨#[]⟩, .slice none 0 0, .bool false, .int .i64 0, .bool false], rfl, HB3.out.trans (p2.below HB3.out.size (fun k e => by have e8 : k = w.heap.size + 1 := e; omega)), IdxN.zero _ _⟩
  have hm0 : ¬ (m : Int) < 0 := by omega
  have HF3 := hid f3
  have hmi : (m : Int) < (C.idxs.length : Int) := by have := (List.getElem?_eq_some_iff.1 f2).1; omega
  rw [f1] at CA
  obtain ⟨b, off, a1, e1, rfl, ht, c0, c1, c2, c3, c4, c5, c6⟩ := HC.out m u f2
  have HSU := hid (HS.out u (List.mem_of_getElem? f2))
  have HTN := hid ht
  clear f1 f2 f3 f4 f5 ht
  have HC0 := hid c0
  have HC1 := hid c1
  have HC2 := hid c2
  have HC3 := hid c3
  have HC4 := hid c4
  have HC5 := hid c5
  have HC6 := hid c6
  clear c0 c1 c2 c3 c4 c5 c6
  go_upto_region 4 with (first | (go_at_call 103; refine CA.out.mono ?_; rintro en w3 ⟨rfl, hb3⟩; have HB3 := hid (below_step HB2.out hb3); have HZ3 := hid ((hb3.block _ (lt_of_block HZ2.out)).trans HZ2.out); have HR3 := hid ((hb3.block _ (lt_of_block HR2.out)).trans HR2.out); clear hb3 z0 z1 z2 z3))
  have z3 := cell_in HZ3.out 3 _ rfl
  have k0 := (HB3.out.cell (block_cell HC0.out)).trans HC0.out
  have k1 := (HB3.out.cell (block_cell HC1.out)).trans HC1.out
  have k2 := (HB3.out.cell (block_cell HC2.out)).trans HC2.out
  have k3 := (HB3.out.cell (block_cell HC3.out)).trans HC3.out
  have k4 := (HB3.out.cell (block_cell HC4.out)).trans HC4.out
  have k5 := (HB3.out.cell (block_cell HC5.out)).trans HC5.out
  have k6 := (HB3.out.cell (block_cell HC6.out)).trans HC6.out
  have CP := hid (cpIdx_any (HTN.out.old HB3.out) HSU.out)
  go_wp2_with (first | (go_at_call 104; refine CP.out.mono ?_; rintro en w4 ⟨vs, rfl, hb4, hk4⟩; obtain ⟨f1, q1, rfl⟩ := idx_form hk4; have HB34 := hid hb4; have HB4 := hid (below_step HB3.out hb4); have HK4 := hid hk4; have HR4 := hid ((hb4.block _ (lt_of_block HR3.out)).trans HR3.out); clear hb4 hk4 z3 k0 k1 k2 k3 k4 k5 k6; have r0 := cell_in HR4.out 0 _ rfl; have r0f := free_in HR4.out 0; have r1 := cell_in HR4.out 1 _ rfl; have r1f := free_in HR4.out 1; have r2 := cell_in HR4.out 2 _ rfl; have r2f := free_in HR4.out 2; have r3 := cell_in HR4.out 3 _ rfl; have r3f := free_in HR4.out 3; have r4 := cell_in HR4.out 4 _ rfl; have r4f := free_in HR4.out 4; have r5 := cell_in HR4.out 5 _ rfl; have r5f := free_in HR4.out 5; have r6 := cell_in HR4.out 6 _ rfl; have r6f := free_in HR4.out 6))
  obtain ⟨p1, p2⟩ := put7 HR4.out (.int .i64 u.id) (.int .i64 u.table) (.string ⟨u.name.toArray⟩) (.slice f1 u.cols.length q1) (.bool u.uniq) (.int .i64 u.state) (.bool u.bad)
  generalize ((((((w4.setCell ⟨w.heap.size + 1, 0, none⟩ (.int .i64 u.id)).setCell ⟨w.heap.size + 1, 1, none⟩ (.int .i64 u.table)).setCell ⟨w.heap.size + 1, 2, none⟩ (.string ⟨u.name.toArray⟩)).setCell ⟨w.heap.size + 1, 3, none⟩ (.slice f1 u.cols.length q1)).setCell ⟨w.heap.size + 1, 4, none⟩ (.bool u.uniq)).setCell ⟨w.heap.size + 1, 5, none⟩ (.int .i64 u.state)).setCell ⟨w.heap.size + 1, 6, none⟩ (.bool u.bad) = s4 at *
  refine bodyPost_ret (results_cell2 rfl _ _ (w.heap.size + 1) 37 _ (0, 0) _ rfl p1 Try.underlying37 rfl (by kernel_rfl)) rfl ?_
  have e1 := HSZ.out
  have e2 := HB3.out.size
  have e3 := p2.size
  have e4 := HR3.out
  have e5 := lt_of_block e4
  rw [HF3.out]
  exact ⟨_, rfl, HB4.out.trans (p2.below HB4.out.size (fun k e => by have e8 : k = w.heap.size + 1 := e; omega)), (HK4.out.keep p2 (fun k e e9 => by have e8 : k = w.heap.size + 1 := e9; have := e.1; omega)).mono (fun k e => ⟨by have := e.1; omega, by have := e.2; omega⟩)⟩


def smallB (C : Cat) : Bool := decide (C.tabs.length ≤ 20) && decide (C.idxs.length ≤ 30) && C.tabs.all (fun t => decide (t.cols.length ≤ 30) && decide (t.key.length ≤ 30)) && C.idxs.all (fun x => decide (x.cols.length ≤ 30))
theorem small_S {C : Cat} (h : smallB C = true) : C.S := by
  unfold smallB at h
  simp only [Bool.and_eq_true, decide_eq_true_eq, List.all_eq_true] at h
  refine ⟨by omega, by omega, fun t ht => ?_, fun x hx => ?_⟩
  · have := h.1.2 t ht; omega
  · have := h.2 x hx; omega

set_option maxHeartbeats 8000000 in
theorem small_any {N : Nat → Prop} {w : World} {cs : List Value} {C : Cat} (h : CatN N w cs C) : Calls Try.prog 13 #[.agg cs.toArray] w (fun e w' => e = .returned (.bool (smallB C)) ∧ Below w.heap.size w w') := by
  obtain ⟨x, y, rfl, hx, hy, -, -⟩ := h
  obtain ⟨ao, c, rfl, h1, h2, tc⟩ := tb_cells hx
  obtain ⟨ko, d, rfl, g1, g2, gc⟩ := ix_cells hy
  have hlm : C.tabs.length ≤ 9223372036854775807 := by unfold maxLen at h2; omega
  have hkm : C.idxs.length ≤ 9223372036854775807 := by unfold maxLen at g2; omega
  have HT := hid tc
  have HC := hid gc
  clear hx hy tc gc
  go_enter Try.func13, Try.ntmps13
  go_upto_region 1 with fail
  have hb := (Below.refl w.heap.size w).alloc (Nat.le_refl _) (.cells #[.int .i64 C.ver, .int .i64 C.nxt, .slice ao C.tabs.length c, .slice ko C.idxs.length d] 25)
  have hz := heap_alloc_new w (.cells #[.int .i64 C.ver, .int .i64 C.nxt, .slice ao C.tabs.length c, .slice ko C.idxs.length d] 25)
  generalize w.alloc (.cells #[.int .i64 C.ver, .int .i64 C.nxt, .slice ao C.tabs.length c, .slice ko C.idxs.length d] 25) = w1 at *
  have HB := hid hb
  have z2 := cell_in hz 2 _ rfl
  have z3 := cell_in hz 3 _ rfl
  clear hb hz
  by_cases a1 : (20 : Int) < (C.tabs.length : Int)
  · have HR : Hid (smallB C = false) := hid (by unfold smallB; rw [decide_eq_false (by omega : ¬ C.tabs.length ≤ 20)]; rfl)
    go_wp2_with fail
    go_ret
    exact ⟨by rw [HR.out]; rfl, HB.out⟩
  by_cases a2 : (30 : Int) < (C.idxs.length : Int)
  · have HR : Hid (smallB C = false) := hid (by unfold smallB; rw [decide_eq_false (by omega : ¬ C.idxs.length ≤ 30), Bool.and_false]; rfl)
    go_wp2_with fail
    go_ret
    exact ⟨by rw [HR.out]; rfl, HB.out⟩
  have HE : Hid (smallB C = (C.tabs.all (fun t => decide (t.cols.length ≤ 30) && decide (t.key.length ≤ 30)) && C.idxs.all (fun x => decide (x.cols.length ≤ 30)))) := hid (by unfold smallB; rw [decide_eq_true (by omega : C.tabs.length ≤ 20), decide_eq_true (by omega : C.idxs.length ≤ 30)]; rfl)
  go_wp2_with fail
  go_loopw [3] (fun j wr => ∃ k : Nat, k ≤ C.tabs.length ∧ j = .int .i64 (k : Int) ∧ wr = w1 ∧ (C.tabs.take k).all (fun t => decide (t.cols.length ≤ 30) && decide (t.key.length ≤ 30)) = true)
    (fun j _ => C.tabs.length - (intOf j).toNat)
  case atStart => exact ⟨0, by omega, rfl, rfl, rfl⟩
  case round =>
    obtain ⟨k, hk, rfl, rfl, ha⟩ := hrel
    have HA := hid ha
    clear ha
    by_cases hlt : k < C.tabs.length
    · obtain ⟨u, hu⟩ : ∃ u, C.tabs[k]? = some u := ⟨_, List.getElem?_eq_getElem hlt⟩
      obtain ⟨b, off, a1', e1, a2', e2, rfl, ht, c0, c1, c2, c3⟩ := HT.out k u hu
      have hki : (k : Int) < (C.tabs.length : Int) := by omega
      have k2 := (HB.out.cell (block_cell c2)).trans c2
      have k3 := (HB.out.cell (block_cell c3)).trans c3
      have HTK := hid (all_take' (p := fun t => decide (t.cols.length ≤ 30) && decide (t.key.length ≤ 30)) hu HA.out)
      have HF : Hid ((decide (u.cols.length ≤ 30) && decide (u.key.length ≤ 30)) = false → smallB C = false) := hid (fun h => by rw [HE.out, all_no hu h]; rfl)
      clear c0 c1 c2 c3 ht hu
      by_cases b1 : (30 : Int) < (u.cols.length : Int)
      · have HR := hid (HF.out (by rw [decide_eq_false (by omega : ¬ u.cols.length ≤ 30)]; rfl))
        clear HF HTK
        go_wp2_with fail
        go_ret
        exact ⟨by rw [HR.out]; rfl, HB.out⟩
      by_cases b2 : (30 : Int) < (u.key.length : Int)
      · have HR := hid (HF.out (by rw [decide_eq_false (by omega : ¬ u.key.length ≤ 30), Bool.and_false]))
        clear HF HTK
        go_wp2_with fail
        go_ret
        exact ⟨by rw [HR.out]; rfl, HB.out⟩
      have HT2 : Hid ((C.tabs.take (k + 1)).all (fun t => decide (t.cols.length ≤ 30) && decide (t.key.length ≤ 30)) = true) := hid (by rw [HTK.out, decide_eq_true (by omega : u.cols.length ≤ 30), decide_eq_true (by omega : u.key.length ≤ 30)]; rfl)
      clear HF HTK
      go_wp2_with fail
      go_roundw
      case rel => exact ⟨k + 1, by omega, by go_num, by first | trivial | rfl, HT2.out⟩
      case measure => simp [intOf]; omega
    · obtain rfl : k = C.tabs.length := by omega
      rw [List.take_length] at HA
      rw [HA.out, Bool.true_and] at HE
      clear HA
      go_wp2_with fail
      go_loopw [4] (fun j wq => ∃ k : Nat, k ≤ C.idxs.length ∧ j = .int .i64 (k : Int) ∧ wq = wr ∧ (C.idxs.take k).all (fun x => decide (x.cols.length ≤ 30)) = true)
        (fun j _ => C.idxs.length - (intOf j).toNat)
      case atStart => exact ⟨0, by omega, rfl, rfl, rfl⟩
      case round =>
        obtain ⟨k, hk, rfl, rfl, ha⟩ := hrel
        have HA := hid ha
        clear ha
        by_cases hlt : k < C.idxs.length
        · obtain ⟨u, hu⟩ : ∃ u, C.idxs[k]? = some u := ⟨_, List.getElem?_eq_getElem hlt⟩
          obtain ⟨b, off, a1', e1, rfl, ht, c0, c1, c2, c3, c4, c5, c6⟩ := HC.out k u hu
          have hki : (k : Int) < (C.idxs.length : Int) := by omega
          have k3 := (HB.out.cell (block_cell c3)).trans c3
          have HTK := hid (all_take' (p := fun x => decide (x.cols.length ≤ 30)) hu HA.out)
          have HF : Hid (decide (u.cols.length ≤ 30) = false → smallB C = false) := hid (fun h => by rw [HE.out, all_no hu h])
          clear c0 c1 c2 c3 c4 c5 c6 ht hu
          by_cases b1 : (30 : Int) < (u.cols.length : Int)
          · have HR := hid (HF.out (decide_eq_false (by omega)))
            clear HF HTK
            go_wp2_with fail
            go_ret
            exact ⟨by rw [HR.out]; rfl, HB.out⟩
          have HT2 : Hid ((C.idxs.take (k + 1)).all (fun x => decide (x.cols.length ≤ 30)) = true) := hid (by rw [HTK.out, decide_eq_true (by omega : u.cols.length ≤ 30)])
          clear HF HTK
          go_wp2_with fail
          go_roundw
          case rel => exact ⟨k + 1, by omega, by go_num, by first | trivial | rfl, HT2.out⟩
          case measure => simp [intOf]; omega
        · obtain rfl : k = C.idxs.length := by omega
          rw [List.take_length] at HA
          rw [HA.out] at HE
          go_wp2_with fail
          go_ret
          exact ⟨by rw [HE.out]; rfl, HB.out⟩
end Go.Proofs.Ytafcbelkhhjcoaa
