/-
  LAYER 12, THE CODE's: AddIndex (made by src2/gen_schaddx.py).
-/
import Derived.Test.YtafcbelkhhjcoaaSqt
import Derived.Test.YtafcbelkhhjcoaaSo
set_option linter.unusedVariables false
set_option linter.unusedSimpArgs false
set_option maxRecDepth 100000
namespace Go.Proofs.Ytafcbelkhhjcoaa
open Go.RowKit Go.Deep

theorem CatO.own2 {base : Nat} {w : World} {v0 v1 x y : Value} {C : Cat} (h : CatO base w [v0, v1, x, y] C) : ∀ k, y.ownBlock = some k → base ≤ k ∧ k < w.heap.size := by
  obtain ⟨x', y', e, -, h2, -⟩ := h
  simp only [List.cons.injEq, and_true] at e
  obtain ⟨-, -, rfl, rfl⟩ := e
  exact h2.lt
theorem CatO.own1' {base : Nat} {w : World} {v0 v1 x y : Value} {C : Cat} (h : CatO base w [v0, v1, x, y] C) : ∀ k, x.ownBlock = some k → base ≤ k := fun k e => (h.own1 k e).1

set_option maxHeartbeats 16000000 in
theorem addIndex_any {N Nx : Nat → Prop} {w : World} {cs xs : List Value} {C : Cat} {x : Idx} (h : CatN N w cs C) (hS : C.S) (hv : -9223372036854775808 ≤ C.ver ∧ C.ver < 9223372036854775807) (hn : -9223372036854775808 ≤ C.nxt)
    (hx : IdxN Nx w xs x) (hxW : x.W) (hxS : x.cols.length ≤ 100) (s : List UInt8) :
    Calls Try.prog 29 #[.agg cs.toArray, .agg xs.toArray, .string ⟨s.toArray⟩] w (ChN w (addIndexM C x s)) := by
  have HH := hid h
  have HX := hid hx
  have HW := hid hxW
  have HTS := hid hxS
  obtain ⟨a, c, a', c', rfl, -, -, hl1, hl2⟩ := cat_open h
  obtain ⟨xa, xc, rfl⟩ := idx_form hx
  have hil : C.idxs.length ≤ 100 := hS.2.1
  have HS := hid hS
  have HV := hid hv
  have HN := hid hn
  have hv2 := hv.2
  clear h hx hS hn hxW hxS
  go_enter Try.func29, Try.ntmps29
  go_upto_region 1 with fail
  have hb := (Below.refl w.heap.size w).alloc (Nat.le_refl _) (.cells #[.int .i64 C.ver, .int .i64 C.nxt, .slice a C.tabs.length c, .slice a' C.idxs.length c'] 25)
  have hz := heap_alloc_new w (.cells #[.int .i64 C.ver, .int .i64 C.nxt, .slice a C.tabs.length c, .slice a' C.idxs.length c'] 25)
  have hsz : (w.alloc (.cells #[.int .i64 C.ver, .int .i64 C.nxt, .slice a C.tabs.length c, .slice a' C.idxs.length c'] 25)).heap.size = w.heap.size + 1 := by simp
  generalize w.alloc (.cells #[.int .i64 C.ver, .int .i64 C.nxt, .slice a C.tabs.length c, .slice a' C.idxs.length c'] 25) = w1 at *
  have hz2 := heap_alloc_new w1 (.cells #[.int .i64 x.id, .int .i64 x.table, .string ⟨x.name.toArray⟩, .slice xa x.cols.length xc, .bool x.uniq, .int .i64 x.state, .bool x.bad] 37)
  have hb2 := hb.alloc hb.size (.cells #[.int .i64 x.id, .int .i64 x.table, .string ⟨x.name.toArray⟩, .slice xa x.cols.length xc, .bool x.uniq, .int .i64 x.state, .bool x.bad] 37)
  have hzk := (((Below.refl _ w1).alloc (Nat.le_refl _) (.cells #[.int .i64 x.id, .int .i64 x.table, .string ⟨x.name.toArray⟩, .slice xa x.cols.length xc, .bool x.uniq, .int .i64 x.state, .bool x.bad] 37)).block _ (lt_of_block hz)).trans hz
  have hsz2 : (w1.alloc (.cells #[.int .i64 x.id, .int .i64 x.table, .string ⟨x.name.toArray⟩, .slice xa x.cols.length xc, .bool x.uniq, .int .i64 x.state, .bool x.bad] 37)).heap.size = w.heap.size + 2 := by simp [hsz]
  rw [hsz] at hz2
  generalize w1.alloc (.cells #[.int .i64 x.id, .int .i64 x.table, .string ⟨x.name.toArray⟩, .slice xa x.cols.length xc, .bool x.uniq, .int .i64 x.state, .bool x.bad] 37) = w2 at *
  have hz3 := heap_alloc_new w2 (.cells #[.int .i64 0, .int .i64 0, .slice none 0 0, .slice none 0 0] 25)
  have hb3 := hb2.alloc hb2.size (.cells #[.int .i64 0, .int .i64 0, .slice none 0 0, .slice none 0 0] 25)
  have hzk2 := (((Below.refl _ w2).alloc (Nat.le_refl _) (.cells #[.int .i64 0, .int .i64 0, .slice none 0 0, .slice none 0 0] 25)).block _ (lt_of_block hzk)).trans hzk
  have hzt2 := (((Below.refl _ w2).alloc (Nat.le_refl _) (.cells #[.int .i64 0, .int .i64 0, .slice none 0 0, .slice none 0 0] 25)).block _ (lt_of_block hz2)).trans hz2
  have hsz3 : (w2.alloc (.cells #[.int .i64 0, .int .i64 0, .slice none 0 0, .slice none 0 0] 25)).heap.size = w.heap.size + 3 := by simp [hsz2]
  rw [hsz2] at hz3
  generalize w2.alloc (.cells #[.int .i64 0, .int .i64 0, .slice none 0 0, .slice none 0 0] 25) = w3 at *
  have HB3 := hid hb3
  have HZ3 := hid hzk2
  have HT3 := hid hzt2
  have HR3 := hid hz3
  have HSZ := hid hsz3
  clear hz hz2 hz3 hb hb2 hb3 hzk hzk2 hzt2 hsz hsz2 hsz3
  have z0 := cell_in HZ3.out 0 _ rfl
  have z1 := cell_in HZ3.out 1 _ rfl
  have z2 := cell_in HZ3.out 2 _ rfl
  have z3 := cell_in HZ3.out 3 _ rfl
  have CC := hid (copied_any (HH.out.old HB3.out) HS.out)
  go_upto_region 2 with (first | (go_at_call 106; refine CC.out.mono ?_; rintro en w4 ⟨vs, rfl, hb4, hc4⟩; have HC4 := hid hc4; obtain ⟨vx, vy, rfl, ho1, ho2, -⟩ := hc4; obtain ⟨sa, sc, rfl⟩ := own_form ho1; obtain ⟨ka, kc, rfl⟩ := own_form ho2; have HB34 := hid hb4.size; have HB4 := hid (below_step HB3.out hb4); have HZ4 := hid ((hb4.block _ (lt_of_block HZ3.out)).trans HZ3.out); have HT4 := hid ((hb4.block _ (lt_of_block HT3.out)).trans HT3.out); have HR4 := hid ((hb4.block _ (lt_of_block HR3.out)).trans HR3.out); clear hb4 ho1 ho2 z0 z1 z2 z3; have z0 := cell_in HZ4.out 0 _ rfl; have z1 := cell_in HZ4.out 1 _ rfl; have z2 := cell_in HZ4.out 2 _ rfl; have z3 := cell_in HZ4.out 3 _ rfl; have z0f := free_in HZ4.out 0; have z1f := free_in HZ4.out 1; have z2f := free_in HZ4.out 2; have z3f := free_in HZ4.out 3))
  obtain ⟨pz, pk⟩ := put4 HZ4.out (.int .i64 C.ver) (.int .i64 C.nxt) (.slice sa C.tabs.length sc) (.slice ka C.idxs.length kc)
  generalize (((w4.setCell ⟨w.heap.size, 0, none⟩ (.int .i64 C.ver)).setCell ⟨w.heap.size, 1, none⟩ (.int .i64 C.nxt)).setCell ⟨w.heap.size, 2, none⟩ (.slice sa C.tabs.length sc)).setCell ⟨w.heap.size, 3, none⟩ (.slice ka C.idxs.length kc) = w5 at *
  have HZ5 := hid pz
  have HK5 := hid pk
  clear pz pk z0 z1 z2 z3 z0f z1f z2f z3f
  have HT5 := hid ((HK5.out.block _ (lt_of_block HT4.out) (fun e => by have e9 : w.heap.size + 1 = w.heap.size := e; omega)).trans HT4.out)
  have HR5 := hid ((HK5.out.block _ (lt_of_block HR4.out) (fun e => by have e9 : w.heap.size + 2 = w.heap.size := e; omega)).trans HR4.out)
  have HC5 := hid (HC4.out.keep HK5.out (fun k e => by have e9 : k = w.heap.size := e; have := HSZ.out; omega))
  have HB5 : Hid (Below w.heap.size w w5) := hid (HB4.out.trans (HK5.out.below HB4.out.size (fun k e => by have e9 : k = w.heap.size := e; omega)))
  have z0 := cell_in HZ5.out 0 _ rfl
  have z0f := free_in HZ5.out 0
  have z1 := cell_in HZ5.out 1 _ rfl
  have z1f := free_in HZ5.out 1
  have z2 := cell_in HZ5.out 2 _ rfl
  have z2f := free_in HZ5.out 2
  have z3 := cell_in HZ5.out 3 _ rfl
  have z3f := free_in HZ5.out 3
  have t0 := cell_in HT5.out 0 _ rfl
  have t0f := free_in HT5.out 0
  have t1 := cell_in HT5.out 1 _ rfl
  have t1f := free_in HT5.out 1
  have t2 := cell_in HT5.out 2 _ rfl
  have t2f := free_in HT5.out 2
  have t3 := cell_in HT5.out 3 _ rfl
  have t3f := free_in HT5.out 3
  have t4 := cell_in HT5.out 4 _ rfl
  have t4f := free_in HT5.out 4
  have t5 := cell_in HT5.out 5 _ rfl
  have t5f := free_in HT5.out 5
  have t6 := cell_in HT5.out 6 _ rfl
  have t6f := free_in HT5.out 6
  have r0 := cell_in HR5.out 0 _ rfl
  have r0f := free_in HR5.out 0
  have r1 := cell_in HR5.out 1 _ rfl
  have r1f := free_in HR5.out 1
  have r2 := cell_in HR5.out 2 _ rfl
  have r2f := free_in HR5.out 2
  have r3 := cell_in HR5.out 3 _ rfl
  have r3f := free_in HR5.out 3
  have CTA := hid (tableAt_any HC5.out.cat s)
  have FC := fidx_cases (fun q => decide (q.name = s)) C.tabs
  rcases FC with ⟨f1, f2, -⟩ | ⟨m, tt, f1, f2, f3, f4, f5⟩
  case inl =>
    have HD : Hid (addIndexM C x s = (C, 5)) := hid (by unfold addIndexM; rw [f2])
    rw [f1] at CTA
    clear f1 f2
    go_wp2_with (first | (go_at_call 101; refine CTA.out.mono ?_; rintro en w6 ⟨rfl, hb6⟩; have HSS6 := hid hb6.size; have HB6 := hid (below_step HB5.out hb6); have HZ6 := hid ((hb6.block _ (lt_of_block HZ5.out)).trans HZ5.out); have HT6 := hid ((hb6.block _ (lt_of_block HT5.out)).trans HT5.out); have HR6 := hid ((hb6.block _ (lt_of_block HR5.out)).trans HR5.out); have HC6 := hid (HC5.out.keep (Keep.of_below (X := fun _ => False) hb6) (fun _ e => e.elim)); clear z0 z0f z1 z1f z2 z2f z3 z3f t0 t0f t1 t1f t2 t2f t3 t3f t4 t4f t5 t5f t6 t6f r0 r0f r1 r1f r2 r2f r3 r3f; have z0 := cell_in HZ6.out 0 _ rfl; have z0f := free_in HZ6.out 0; have z1 := cell_in HZ6.out 1 _ rfl; have z1f := free_in HZ6.out 1; have z2 := cell_in HZ6.out 2 _ rfl; have z2f := free_in HZ6.out 2; have z3 := cell_in HZ6.out 3 _ rfl; have z3f := free_in HZ6.out 3; have t0 := cell_in HT6.out 0 _ rfl; have t0f := free_in HT6.out 0; have t1 := cell_in HT6.out 1 _ rfl; have t1f := free_in HT6.out 1; have t2 := cell_in HT6.out 2 _ rfl; have t2f := free_in HT6.out 2; have t3 := cell_in HT6.out 3 _ rfl; have t3f := free_in HT6.out 3; have t4 := cell_in HT6.out 4 _ rfl; have t4f := free_in HT6.out 4; have t5 := cell_in HT6.out 5 _ rfl; have t5f := free_in HT6.out 5; have t6 := cell_in HT6.out 6 _ rfl; have t6f := free_in HT6.out 6; have r0 := cell_in HR6.out 0 _ rfl; have r0f := free_in HR6.out 0; have r1 := cell_in HR6.out 1 _ rfl; have r1f := free_in HR6.out 1; have r2 := cell_in HR6.out 2 _ rfl; have r2f := free_in HR6.out 2; have r3 := cell_in HR6.out 3 _ rfl; have r3f := free_in HR6.out 3; clear hb6))
    obtain ⟨p1, p2⟩ := put4 HR6.out (.int .i64 C.ver) (.int .i64 C.nxt) (.slice sa C.tabs.length sc) (.slice ka C.idxs.length kc)
    generalize (((w6.setCell ⟨w.heap.size + 2, 0, none⟩ (.int .i64 C.ver)).setCell ⟨w.heap.size + 2, 1, none⟩ (.int .i64 C.nxt)).setCell ⟨w.heap.size + 2, 2, none⟩ (.slice sa C.tabs.length sc)).setCell ⟨w.heap.size + 2, 3, none⟩ (.slice ka C.idxs.length kc) = s4 at *
    refine bodyPost_ret (results_cell2 rfl _ _ (w.heap.size + 2) 25 _ (0, 0) _ rfl p1 Try.underlying25 rfl (by kernel_rfl)) rfl ?_
    have e1 := HSZ.out
    have e2 := HB6.out.size
    have e3 := p2.size
    rw [HD.out]
    exact ⟨_, rfl, HB6.out.trans (p2.below (by omega) (fun k e => by have e8 : k = w.heap.size + 2 := e; omega)), (HC6.out.keep p2 (fun k e => by have e8 : k = w.heap.size + 2 := e; omega)).cat.mono (fun k e => ⟨by have := e.1; omega, e.2⟩)⟩
  have hm0 : ¬ (m : Int) < 0 := by omega
  have HF3 := hid f3
  have HF2 := hid f2
  rw [f1] at CTA
  have hmi : (m : Int) < (C.tabs.length : Int) := by have := (List.getElem?_eq_some_iff.1 f2).1; omega
  clear f1 f2 f3 f4 f5
  go_upto_region 5 with (first | (go_at_call 101; refine CTA.out.mono ?_; rintro en w6 ⟨rfl, hb6⟩; have HSS6 := hid hb6.size; have HB6 := hid (below_step HB5.out hb6); have HZ6 := hid ((hb6.block _ (lt_of_block HZ5.out)).trans HZ5.out); have HT6 := hid ((hb6.block _ (lt_of_block HT5.out)).trans HT5.out); have HR6 := hid ((hb6.block _ (lt_of_block HR5.out)).trans HR5.out); have HC6 := hid (HC5.out.keep (Keep.of_below (X := fun _ => False) hb6) (fun _ e => e.elim)); clear z0 z0f z1 z1f z2 z2f z3 z3f t0 t0f t1 t1f t2 t2f t3 t3f t4 t4f t5 t5f t6 t6f r0 r0f r1 r1f r2 r2f r3 r3f; have z0 := cell_in HZ6.out 0 _ rfl; have z0f := free_in HZ6.out 0; have z1 := cell_in HZ6.out 1 _ rfl; have z1f := free_in HZ6.out 1; have z2 := cell_in HZ6.out 2 _ rfl; have z2f := free_in HZ6.out 2; have z3 := cell_in HZ6.out 3 _ rfl; have z3f := free_in HZ6.out 3; have t0 := cell_in HT6.out 0 _ rfl; have t0f := free_in HT6.out 0; have t1 := cell_in HT6.out 1 _ rfl; have t1f := free_in HT6.out 1; have t2 := cell_in HT6.out 2 _ rfl; have t2f := free_in HT6.out 2; have t3 := cell_in HT6.out 3 _ rfl; have t3f := free_in HT6.out 3; have t4 := cell_in HT6.out 4 _ rfl; have t4f := free_in HT6.out 4; have t5 := cell_in HT6.out 5 _ rfl; have t5f := free_in HT6.out 5; have t6 := cell_in HT6.out 6 _ rfl; have t6f := free_in HT6.out 6; have r0 := cell_in HR6.out 0 _ rfl; have r0f := free_in HR6.out 0; have r1 := cell_in HR6.out 1 _ rfl; have r1f := free_in HR6.out 1; have r2 := cell_in HR6.out 2 _ rfl; have r2f := free_in HR6.out 2; have r3 := cell_in HR6.out 3 _ rfl; have r3f := free_in HR6.out 3; clear hb6))
  clear z0 z0f z1 z1f z2 z2f z3 z3f t0 t0f t1 t1f t2 t2f t3 t3f t4 t4f t5 t5f t6 t6f r0 r0f r1 r1f r2 r2f r3 r3f
  obtain ⟨tb, toff, ta1, te1, ta2, te2, hsa, ht, c0, c1, c2, c3⟩ : ∃ tb toff ta1 te1 ta2 te2, sa = some ⟨tb, toff, none⟩ ∧ TabN (fun k => w3.heap.size ≤ k ∧ k < w6.heap.size) w6 [.int .i64 tt.id, .string ⟨tt.name.toArray⟩, .slice ta1 tt.cols.length te1, .slice ta2 tt.key.length te2] tt ∧ w6.cell? ⟨tb, toff + m * 4, none⟩ = some (.int .i64 tt.id) ∧ w6.cell? ⟨tb, toff + m * 4 + 1, none⟩ = some (.string ⟨tt.name.toArray⟩) ∧ w6.cell? ⟨tb, toff + m * 4 + 2, none⟩ = some (.slice ta1 tt.cols.length te1) ∧ w6.cell? ⟨tb, toff + m * 4 + 3, none⟩ = some (.slice ta2 tt.key.length te2) := by
    obtain ⟨vx, vy, e9, ho1, -, -, -⟩ := HC6.out.cat
    simp only [List.cons.injEq, and_true, true_and] at e9
    obtain ⟨rfl, rfl⟩ := e9
    obtain ⟨ao9, c9, e8, -, -, hc9⟩ := tb_cells ho1
    obtain ⟨b9, o9, q1, q2, q3, q4, e7, r1, r2, r3, r4, r5⟩ := hc9 m tt HF2.out
    simp only [Value.slice.injEq] at e8
    exact ⟨b9, o9, q1, q2, q3, q4, by rw [e8.1, e7], r1, r2, r3, r4, r5⟩
  have HTL0 : Hid (w3.heap.size ≤ tb) := hid (HC6.out.own1' tb (by rw [hsa]; rfl) )
  subst hsa
  have HTM := hid ht
  have i0 := cell_in HT6.out 0 _ rfl
  have i1 := cell_in HT6.out 1 _ rfl
  have i2 := cell_in HT6.out 2 _ rfl
  have i3 := cell_in HT6.out 3 _ rfl
  have i4 := cell_in HT6.out 4 _ rfl
  have i5 := cell_in HT6.out 5 _ rfl
  have i6 := cell_in HT6.out 6 _ rfl
  have q2 := cell_in HZ6.out 2 _ rfl
  have HTB := hid (block_cell c0)
  have HC0 := hid c0
  have HKp : Hid (∀ V, Below w6.heap.size w6 V → V.cell? ⟨tb, toff + m * 4, none⟩ = some (.int .i64 tt.id) ∧ V.cell? ⟨tb, toff + m * 4 + 1, none⟩ = some (.string ⟨tt.name.toArray⟩) ∧ V.cell? ⟨tb, toff + m * 4 + 2, none⟩ = some (.slice ta1 tt.cols.length te1) ∧ V.cell? ⟨tb, toff + m * 4 + 3, none⟩ = some (.slice ta2 tt.key.length te2) ∧ V.cell? ⟨w.heap.size + 1, 0, none⟩ = some (.int .i64 x.id) ∧ V.cell? ⟨w.heap.size + 1, 1, none⟩ = some (.int .i64 x.table) ∧ V.cell? ⟨w.heap.size + 1, 2, none⟩ = some (.string ⟨x.name.toArray⟩) ∧ V.cell? ⟨w.heap.size + 1, 3, none⟩ = some (.slice xa x.cols.length xc) ∧ V.cell? ⟨w.heap.size + 1, 4, none⟩ = some (.bool x.uniq) ∧ V.cell? ⟨w.heap.size + 1, 5, none⟩ = some (.int .i64 x.state) ∧ V.cell? ⟨w.heap.size + 1, 6, none⟩ = some (.bool x.bad) ∧ V.cell? ⟨w.heap.size, 2, none⟩ = some (.slice (some ⟨tb, toff, none⟩) C.tabs.length sc)) := hid (fun V hV => ⟨(hV.cell (block_cell c0)).trans c0, (hV.cell (block_cell c1)).trans c1, (hV.cell (block_cell c2)).trans c2, (hV.cell (block_cell c3)).trans c3, (hV.cell (block_cell i0)).trans i0, (hV.cell (block_cell i1)).trans i1, (hV.cell (block_cell i2)).trans i2, (hV.cell (block_cell i3)).trans i3, (hV.cell (block_cell i4)).trans i4, (hV.cell (block_cell i5)).trans i5, (hV.cell (block_cell i6)).trans i6, (hV.cell (block_cell q2)).trans q2⟩)
  clear c0 c1 c2 c3 i0 i1 i2 i3 i4 i5 i6 q2 ht
  have CI : Hid (∀ V, Below w6.heap.size w6 V → Calls Try.prog 107 #[.agg #[.int .i64 x.id, .int .i64 x.table, .string ⟨x.name.toArray⟩, .slice xa x.cols.length xc, .bool x.uniq, .int .i64 x.state, .bool x.bad], .agg #[.int .i64 tt.id, .string ⟨tt.name.toArray⟩, .slice ta1 tt.cols.length te1, .slice ta2 tt.key.length te2]] V (fun e w' => e = .returned (.bool (nameB x.name && placesB x.cols tt.cols.length)) ∧ Below V.heap.size V w')) :=
    hid (fun V hV => idxFits_any (N := fun _ => True) ((HX.out.old (below_step HB6.out hV)).mono (fun _ _ => trivial)) ((HTM.out.old hV).mono (fun _ _ => trivial)) HW.out)
  generalize hfb : (nameB x.name && placesB x.cols tt.cols.length) = fb at *
  have HFB := hid hfb
  clear hfb
  refine wp_region_noPanic ?_
  refine wp_region_held_drew (S := fun V => Hid (Below w6.heap.size w6 V)) (by kernel_rfl) (hid (Below.drew (Below.refl _ _))) (fun hHeld => ?_)
  generalize w6.drew = Wd at *
  refine tkH 0 (.agg #[.int .i64 x.id, .int .i64 x.table, .string ⟨x.name.toArray⟩, .slice xa x.cols.length xc, .bool x.uniq, .int .i64 x.state, .bool x.bad]) rfl (by kernel_rfl) (fun _ _ _ => False.elim) hHeld (Or.inl ⟨by rfl, fun W9 hW => by obtain ⟨q1, q2, q3, q4, q5, q6, q7, q8, q9, q10, q11, q12⟩ := HKp.out _ hW.out; clear hHeld hW; simp only [jA, jB, jC]; go_simp⟩) ?_
  simp only [Act.put, jA, jB, jC, jD, jE, jF]
  refine tkH 1 (.pointer (some ⟨w.heap.size, 2, none⟩)) rfl (by kernel_rfl) (fun _ _ _ => False.elim) hHeld (Or.inl ⟨by rfl, fun W9 hW => by clear hHeld hW; simp only [jA, jB, jC]; go_simp⟩) ?_
  simp only [Act.put, jA, jB, jC, jD, jE, jF]
  refine tkH 2 (.slice (some ⟨tb, toff, none⟩) C.tabs.length sc) rfl (by kernel_rfl) (fun _ _ _ => False.elim) hHeld (Or.inl ⟨by rfl, fun W9 hW => by obtain ⟨q1, q2, q3, q4, q5, q6, q7, q8, q9, q10, q11, q12⟩ := HKp.out _ hW.out; clear hHeld hW; simp only [jA, jB, jC]; go_simp⟩) ?_
  simp only [Act.put, jA, jB, jC, jD, jE, jF]
  refine tkH 3 (.int .i64 (m : Int)) rfl (by kernel_rfl) (fun _ _ _ => False.elim) hHeld (Or.inl ⟨by rfl, fun W9 hW => by clear hHeld hW; simp only [jA, jB, jC]; go_simp⟩) ?_
  simp only [Act.put, jA, jB, jC, jD, jE, jF]
  refine tkH 4 (.pointer (some ⟨tb, toff + m * 4, none⟩)) rfl (by kernel_rfl) (fun _ _ _ => False.elim) hHeld (Or.inl ⟨by rfl, fun W9 hW => by clear hHeld hW; simp only [jA, jB, jC]; go_simp⟩) ?_
  simp only [Act.put, jA, jB, jC, jD, jE, jF]
  refine tkH 5 (.agg #[.int .i64 tt.id, .string ⟨tt.name.toArray⟩, .slice ta1 tt.cols.length te1, .slice ta2 tt.key.length te2]) rfl (by kernel_rfl) (fun _ _ _ => False.elim) hHeld (Or.inl ⟨by rfl, fun W9 hW => by obtain ⟨q1, q2, q3, q4, q5, q6, q7, q8, q9, q10, q11, q12⟩ := HKp.out _ hW.out; clear hHeld hW; simp only [jA, jB, jC]; go_simp⟩) ?_
  simp only [Act.put, jA, jB, jC, jD, jE, jF]
  refine rdH 6 (by kernel_rfl) rfl fun K hK => ?_
  go_simp
  go_wp2_with (first | (go_at_call 107; refine (CI.out _ hHeld.out).mono ?_; rintro en w7 ⟨rfl, hb7⟩; have HB67 := hid (below_step hHeld.out hb7); clear hb7))
  refine hK.out _ _ HB67 (fun hHeld => ?_)
  clear hK K
  try simp only [Act.put, jA, jB, jC, jD, jE, jF]
  refine tkH 7 (.bool (!fb)) rfl (by kernel_rfl) (fun _ _ _ => False.elim) hHeld (Or.inl ⟨by rfl, fun W9 hW => by clear hHeld hW; simp only [jA, jB, jC]; go_simp⟩) ?_
  simp only [Act.put, jA, jB, jC, jD, jE, jF]
  refine tkH 8 (.bool (!fb)) rfl (by kernel_rfl) (fun _ _ _ => False.elim) hHeld (Or.inl ⟨by rfl, fun W9 hW => by clear hHeld hW; simp only [jA, jB, jC]; go_simp⟩) ?_
  simp only [Act.put, jA, jB, jC, jD, jE, jF]
  refine wpAnyH_done (by kernel_rfl) (NoPanic.normal ?_) _
  clear hHeld CI
  have hb7 := HB67.out
  have HSS7 := hid hb7.size
  have HB7 := hid (below_step HB6.out hb7)
  have HZ7 := hid ((hb7.block _ (lt_of_block HZ6.out)).trans HZ6.out)
  have HT7 := hid ((hb7.block _ (lt_of_block HT6.out)).trans HT6.out)
  have HR7 := hid ((hb7.block _ (lt_of_block HR6.out)).trans HR6.out)
  have HC7 := hid (HC6.out.keep (Keep.of_below (X := fun _ => False) hb7) (fun _ e => e.elim))
  have z0 := cell_in HZ7.out 0 _ rfl
  have z0f := free_in HZ7.out 0
  have z1 := cell_in HZ7.out 1 _ rfl
  have z1f := free_in HZ7.out 1
  have z2 := cell_in HZ7.out 2 _ rfl
  have z2f := free_in HZ7.out 2
  have z3 := cell_in HZ7.out 3 _ rfl
  have z3f := free_in HZ7.out 3
  have t0 := cell_in HT7.out 0 _ rfl
  have t0f := free_in HT7.out 0
  have t1 := cell_in HT7.out 1 _ rfl
  have t1f := free_in HT7.out 1
  have t2 := cell_in HT7.out 2 _ rfl
  have t2f := free_in HT7.out 2
  have t3 := cell_in HT7.out 3 _ rfl
  have t3f := free_in HT7.out 3
  have t4 := cell_in HT7.out 4 _ rfl
  have t4f := free_in HT7.out 4
  have t5 := cell_in HT7.out 5 _ rfl
  have t5f := free_in HT7.out 5
  have t6 := cell_in HT7.out 6 _ rfl
  have t6f := free_in HT7.out 6
  have r0 := cell_in HR7.out 0 _ rfl
  have r0f := free_in HR7.out 0
  have r1 := cell_in HR7.out 1 _ rfl
  have r1f := free_in HR7.out 1
  have r2 := cell_in HR7.out 2 _ rfl
  have r2f := free_in HR7.out 2
  have r3 := cell_in HR7.out 3 _ rfl
  have r3f := free_in HR7.out 3
  clear hb7
  have CIA := hid (indexAt_any HC7.out.cat x.name)
  have HAM : Hid (addIndexM C x s = if fb = false then (C, 9) else if (C.idxs.find? fun q => decide (q.name = x.name)).isSome = true then (C, 6) else if 10 ≤ C.idxs.length ∨ 1073741824 ≤ C.nxt then (C, 4) else (addIdx C tt.id x, 0)) := hid (by unfold addIndexM; rw [HF3.out, ← HFB.out])
  cases fb with
  | false =>
    have HD : Hid (addIndexM C x s = (C, 9)) := hid (by rw [HAM.out]; rfl)
    clear HAM
    go_wp2_with fail
    obtain ⟨p1, p2⟩ := put4 HR7.out (.int .i64 C.ver) (.int .i64 C.nxt) (.slice (some ⟨tb, toff, none⟩) C.tabs.length sc) (.slice ka C.idxs.length kc)
    generalize (((w7.setCell ⟨w.heap.size + 2, 0, none⟩ (.int .i64 C.ver)).setCell ⟨w.heap.size + 2, 1, none⟩ (.int .i64 C.nxt)).setCell ⟨w.heap.size + 2, 2, none⟩ (.slice (some ⟨tb, toff, none⟩) C.tabs.length sc)).setCell ⟨w.heap.size + 2, 3, none⟩ (.slice ka C.idxs.length kc) = s4 at *
    refine bodyPost_ret (results_cell2 rfl _ _ (w.heap.size + 2) 25 _ (0, 0) _ rfl p1 Try.underlying25 rfl (by kernel_rfl)) rfl ?_
    have e1 := HSZ.out
    have e2 := HB7.out.size
    have e3 := p2.size
    rw [HD.out]
    exact ⟨_, rfl, HB7.out.trans (p2.below (by omega) (fun k e => by have e8 : k = w.heap.size + 2 := e; omega)), (HC7.out.keep p2 (fun k e => by have e8 : k = w.heap.size + 2 := e; omega)).cat.mono (fun k e => ⟨by have := e.1; omega, e.2⟩)⟩
  | true =>
  have FC := fidx_cases (fun q => decide (q.name = x.name)) C.idxs
  rcases FC with ⟨f1, f2, -⟩ | ⟨m9, c0, f1, f2, f3, f4, f5⟩
  case inr =>
    have HD : Hid (addIndexM C x s = (C, 6)) := hid (by rw [HAM.out, if_neg (by decide), f3]; exact if_pos rfl)
    have hm90 : (0 : Int) ≤ (m9 : Int) := by omega
    rw [f1] at CIA
    clear f1 f2 f3 f4 f5 HAM
    go_wp2_with (first | (go_at_call 103; refine CIA.out.mono ?_; rintro en w8 ⟨rfl, hb8⟩; have HBX8 := hid hb8; have HSS8 := hid hb8.size; have HB8 := hid (below_step HB7.out hb8); have HZ8 := hid ((hb8.block _ (lt_of_block HZ7.out)).trans HZ7.out); have HT8 := hid ((hb8.block _ (lt_of_block HT7.out)).trans HT7.out); have HR8 := hid ((hb8.block _ (lt_of_block HR7.out)).trans HR7.out); have HC8 := hid (HC7.out.keep (Keep.of_below (X := fun _ => False) hb8) (fun _ e => e.elim)); clear z0 z0f z1 z1f z2 z2f z3 z3f t0 t0f t1 t1f t2 t2f t3 t3f t4 t4f t5 t5f t6 t6f r0 r0f r1 r1f r2 r2f r3 r3f; have z0 := cell_in HZ8.out 0 _ rfl; have z0f := free_in HZ8.out 0; have z1 := cell_in HZ8.out 1 _ rfl; have z1f := free_in HZ8.out 1; have z2 := cell_in HZ8.out 2 _ rfl; have z2f := free_in HZ8.out 2; have z3 := cell_in HZ8.out 3 _ rfl; have z3f := free_in HZ8.out 3; have t0 := cell_in HT8.out 0 _ rfl; have t0f := free_in HT8.out 0; have t1 := cell_in HT8.out 1 _ rfl; have t1f := free_in HT8.out 1; have t2 := cell_in HT8.out 2 _ rfl; have t2f := free_in HT8.out 2; have t3 := cell_in HT8.out 3 _ rfl; have t3f := free_in HT8.out 3; have t4 := cell_in HT8.out 4 _ rfl; have t4f := free_in HT8.out 4; have t5 := cell_in HT8.out 5 _ rfl; have t5f := free_in HT8.out 5; have t6 := cell_in HT8.out 6 _ rfl; have t6f := free_in HT8.out 6; have r0 := cell_in HR8.out 0 _ rfl; have r0f := free_in HR8.out 0; have r1 := cell_in HR8.out 1 _ rfl; have r1f := free_in HR8.out 1; have r2 := cell_in HR8.out 2 _ rfl; have r2f := free_in HR8.out 2; have r3 := cell_in HR8.out 3 _ rfl; have r3f := free_in HR8.out 3; clear hb8; have CCN := hid (counts_any HC8.out.cat HV.out.2)))
    obtain ⟨p1, p2⟩ := put4 HR8.out (.int .i64 C.ver) (.int .i64 C.nxt) (.slice (some ⟨tb, toff, none⟩) C.tabs.length sc) (.slice ka C.idxs.length kc)
    generalize (((w8.setCell ⟨w.heap.size + 2, 0, none⟩ (.int .i64 C.ver)).setCell ⟨w.heap.size + 2, 1, none⟩ (.int .i64 C.nxt)).setCell ⟨w.heap.size + 2, 2, none⟩ (.slice (some ⟨tb, toff, none⟩) C.tabs.length sc)).setCell ⟨w.heap.size + 2, 3, none⟩ (.slice ka C.idxs.length kc) = s4 at *
    refine bodyPost_ret (results_cell2 rfl _ _ (w.heap.size + 2) 25 _ (0, 0) _ rfl p1 Try.underlying25 rfl (by kernel_rfl)) rfl ?_
    have e1 := HSZ.out
    have e2 := HB8.out.size
    have e3 := p2.size
    rw [HD.out]
    exact ⟨_, rfl, HB8.out.trans (p2.below (by omega) (fun k e => by have e8 : k = w.heap.size + 2 := e; omega)), (HC8.out.keep p2 (fun k e => by have e8 : k = w.heap.size + 2 := e; omega)).cat.mono (fun k e => ⟨by have := e.1; omega, e.2⟩)⟩
  rw [f2] at HAM
  rw [f1] at CIA
  clear f1 f2
  go_upto_region 9 with (first | (go_at_call 103; refine CIA.out.mono ?_; rintro en w8 ⟨rfl, hb8⟩; have HBX8 := hid hb8; have HSS8 := hid hb8.size; have HB8 := hid (below_step HB7.out hb8); have HZ8 := hid ((hb8.block _ (lt_of_block HZ7.out)).trans HZ7.out); have HT8 := hid ((hb8.block _ (lt_of_block HT7.out)).trans HT7.out); have HR8 := hid ((hb8.block _ (lt_of_block HR7.out)).trans HR7.out); have HC8 := hid (HC7.out.keep (Keep.of_below (X := fun _ => False) hb8) (fun _ e => e.elim)); clear z0 z0f z1 z1f z2 z2f z3 z3f t0 t0f t1 t1f t2 t2f t3 t3f t4 t4f t5 t5f t6 t6f r0 r0f r1 r1f r2 r2f r3 r3f; have z0 := cell_in HZ8.out 0 _ rfl; have z0f := free_in HZ8.out 0; have z1 := cell_in HZ8.out 1 _ rfl; have z1f := free_in HZ8.out 1; have z2 := cell_in HZ8.out 2 _ rfl; have z2f := free_in HZ8.out 2; have z3 := cell_in HZ8.out 3 _ rfl; have z3f := free_in HZ8.out 3; have t0 := cell_in HT8.out 0 _ rfl; have t0f := free_in HT8.out 0; have t1 := cell_in HT8.out 1 _ rfl; have t1f := free_in HT8.out 1; have t2 := cell_in HT8.out 2 _ rfl; have t2f := free_in HT8.out 2; have t3 := cell_in HT8.out 3 _ rfl; have t3f := free_in HT8.out 3; have t4 := cell_in HT8.out 4 _ rfl; have t4f := free_in HT8.out 4; have t5 := cell_in HT8.out 5 _ rfl; have t5f := free_in HT8.out 5; have t6 := cell_in HT8.out 6 _ rfl; have t6f := free_in HT8.out 6; have r0 := cell_in HR8.out 0 _ rfl; have r0f := free_in HR8.out 0; have r1 := cell_in HR8.out 1 _ rfl; have r1f := free_in HR8.out 1; have r2 := cell_in HR8.out 2 _ rfl; have r2f := free_in HR8.out 2; have r3 := cell_in HR8.out 3 _ rfl; have r3f := free_in HR8.out 3; clear hb8; have CCN := hid (counts_any HC8.out.cat HV.out.2)))
  by_cases h6 : 10 ≤ C.idxs.length
  case pos =>
    have HD : Hid (addIndexM C x s = (C, 4)) := hid (by rw [HAM.out, if_neg (by decide), if_neg (by decide), if_pos (Or.inl h6)])
    have h6i : (10 : Int) ≤ (C.idxs.length : Int) := by omega
    clear HAM
    go_wp2_with fail
    obtain ⟨p1, p2⟩ := put4 HR8.out (.int .i64 C.ver) (.int .i64 C.nxt) (.slice (some ⟨tb, toff, none⟩) C.tabs.length sc) (.slice ka C.idxs.length kc)
    generalize (((w8.setCell ⟨w.heap.size + 2, 0, none⟩ (.int .i64 C.ver)).setCell ⟨w.heap.size + 2, 1, none⟩ (.int .i64 C.nxt)).setCell ⟨w.heap.size + 2, 2, none⟩ (.slice (some ⟨tb, toff, none⟩) C.tabs.length sc)).setCell ⟨w.heap.size + 2, 3, none⟩ (.slice ka C.idxs.length kc) = s4 at *
    refine bodyPost_ret (results_cell2 rfl _ _ (w.heap.size + 2) 25 _ (0, 0) _ rfl p1 Try.underlying25 rfl (by kernel_rfl)) rfl ?_
    have e1 := HSZ.out
    have e2 := HB8.out.size
    have e3 := p2.size
    rw [HD.out]
    exact ⟨_, rfl, HB8.out.trans (p2.below (by omega) (fun k e => by have e8 : k = w.heap.size + 2 := e; omega)), (HC8.out.keep p2 (fun k e => by have e8 : k = w.heap.size + 2 := e; omega)).cat.mono (fun k e => ⟨by have := e.1; omega, e.2⟩)⟩
  have h6i : ¬ (10 : Int) ≤ (C.idxs.length : Int) := by omega
  by_cases hx : 1073741824 ≤ C.nxt
  case pos =>
    have HD : Hid (addIndexM C x s = (C, 4)) := hid (by rw [HAM.out, if_neg (by decide), if_neg (by decide), if_pos (Or.inr hx)])
    rw [decide_eq_false (by omega : ¬ C.nxt < 1073741824)] at CCN
    clear HAM
    go_wp2_with (first | (go_at_call 108; refine CCN.out.mono ?_; rintro en w9 ⟨rfl, hb9⟩; have HBX9 := hid hb9; have HSS9 := hid hb9.size; have HB9 := hid (below_step HB8.out hb9); have HZ9 := hid ((hb9.block _ (lt_of_block HZ8.out)).trans HZ8.out); have HT9 := hid ((hb9.block _ (lt_of_block HT8.out)).trans HT8.out); have HR9 := hid ((hb9.block _ (lt_of_block HR8.out)).trans HR8.out); have HC9 := hid (HC8.out.keep (Keep.of_below (X := fun _ => False) hb9) (fun _ e => e.elim)); clear z0 z0f z1 z1f z2 z2f z3 z3f t0 t0f t1 t1f t2 t2f t3 t3f t4 t4f t5 t5f t6 t6f r0 r0f r1 r1f r2 r2f r3 r3f; have z0 := cell_in HZ9.out 0 _ rfl; have z0f := free_in HZ9.out 0; have z1 := cell_in HZ9.out 1 _ rfl; have z1f := free_in HZ9.out 1; have z2 := cell_in HZ9.out 2 _ rfl; have z2f := free_in HZ9.out 2; have z3 := cell_in HZ9.out 3 _ rfl; have z3f := free_in HZ9.out 3; have t0 := cell_in HT9.out 0 _ rfl; have t0f := free_in HT9.out 0; have t1 := cell_in HT9.out 1 _ rfl; have t1f := free_in HT9.out 1; have t2 := cell_in HT9.out 2 _ rfl; have t2f := free_in HT9.out 2; have t3 := cell_in HT9.out 3 _ rfl; have t3f := free_in HT9.out 3; have t4 := cell_in HT9.out 4 _ rfl; have t4f := free_in HT9.out 4; have t5 := cell_in HT9.out 5 _ rfl; have t5f := free_in HT9.out 5; have t6 := cell_in HT9.out 6 _ rfl; have t6f := free_in HT9.out 6; have r0 := cell_in HR9.out 0 _ rfl; have r0f := free_in HR9.out 0; have r1 := cell_in HR9.out 1 _ rfl; have r1f := free_in HR9.out 1; have r2 := cell_in HR9.out 2 _ rfl; have r2f := free_in HR9.out 2; have r3 := cell_in HR9.out 3 _ rfl; have r3f := free_in HR9.out 3; clear hb9))
    obtain ⟨p1, p2⟩ := put4 HR9.out (.int .i64 C.ver) (.int .i64 C.nxt) (.slice (some ⟨tb, toff, none⟩) C.tabs.length sc) (.slice ka C.idxs.length kc)
    generalize (((w9.setCell ⟨w.heap.size + 2, 0, none⟩ (.int .i64 C.ver)).setCell ⟨w.heap.size + 2, 1, none⟩ (.int .i64 C.nxt)).setCell ⟨w.heap.size + 2, 2, none⟩ (.slice (some ⟨tb, toff, none⟩) C.tabs.length sc)).setCell ⟨w.heap.size + 2, 3, none⟩ (.slice ka C.idxs.length kc) = s4 at *
    refine bodyPost_ret (results_cell2 rfl _ _ (w.heap.size + 2) 25 _ (0, 0) _ rfl p1 Try.underlying25 rfl (by kernel_rfl)) rfl ?_
    have e1 := HSZ.out
    have e2 := HB9.out.size
    have e3 := p2.size
    rw [HD.out]
    exact ⟨_, rfl, HB9.out.trans (p2.below (by omega) (fun k e => by have e8 : k = w.heap.size + 2 := e; omega)), (HC9.out.keep p2 (fun k e => by have e8 : k = w.heap.size + 2 := e; omega)).cat.mono (fun k e => ⟨by have := e.1; omega, e.2⟩)⟩
  have HD : Hid (addIndexM C x s = (addIdx C tt.id x, 0)) := hid (by rw [HAM.out, if_neg (by decide), if_neg (by decide), if_neg (by omega)])
  rw [decide_eq_true (by omega : C.nxt < 1073741824)] at CCN
  clear HAM
  go_upto_region 11 with (first | (go_at_call 108; refine CCN.out.mono ?_; rintro en w9 ⟨rfl, hb9⟩; have HBX9 := hid hb9; have HSS9 := hid hb9.size; have HB9 := hid (below_step HB8.out hb9); have HZ9 := hid ((hb9.block _ (lt_of_block HZ8.out)).trans HZ8.out); have HT9 := hid ((hb9.block _ (lt_of_block HT8.out)).trans HT8.out); have HR9 := hid ((hb9.block _ (lt_of_block HR8.out)).trans HR8.out); have HC9 := hid (HC8.out.keep (Keep.of_below (X := fun _ => False) hb9) (fun _ e => e.elim)); clear z0 z0f z1 z1f z2 z2f z3 z3f t0 t0f t1 t1f t2 t2f t3 t3f t4 t4f t5 t5f t6 t6f r0 r0f r1 r1f r2 r2f r3 r3f; have z0 := cell_in HZ9.out 0 _ rfl; have z0f := free_in HZ9.out 0; have z1 := cell_in HZ9.out 1 _ rfl; have z1f := free_in HZ9.out 1; have z2 := cell_in HZ9.out 2 _ rfl; have z2f := free_in HZ9.out 2; have z3 := cell_in HZ9.out 3 _ rfl; have z3f := free_in HZ9.out 3; have t0 := cell_in HT9.out 0 _ rfl; have t0f := free_in HT9.out 0; have t1 := cell_in HT9.out 1 _ rfl; have t1f := free_in HT9.out 1; have t2 := cell_in HT9.out 2 _ rfl; have t2f := free_in HT9.out 2; have t3 := cell_in HT9.out 3 _ rfl; have t3f := free_in HT9.out 3; have t4 := cell_in HT9.out 4 _ rfl; have t4f := free_in HT9.out 4; have t5 := cell_in HT9.out 5 _ rfl; have t5f := free_in HT9.out 5; have t6 := cell_in HT9.out 6 _ rfl; have t6f := free_in HT9.out 6; have r0 := cell_in HR9.out 0 _ rfl; have r0f := free_in HR9.out 0; have r1 := cell_in HR9.out 1 _ rfl; have r1f := free_in HR9.out 1; have r2 := cell_in HR9.out 2 _ rfl; have r2f := free_in HR9.out 2; have r3 := cell_in HR9.out 3 _ rfl; have r3f := free_in HR9.out 3; clear hb9))
  have HL9 : Hid (w3.heap.size ≤ w9.heap.size) := hid (by have := HB34.out; have := HK5.out.size; have := HSS6.out; have := HSS7.out; have := HSS8.out; have := HSS9.out; omega)
  have HC4S : Hid (∀ k, (Value.slice ka C.idxs.length kc).ownBlock = some k → k < w9.heap.size) := hid (fun k e => (HC9.out.own2 k e).2)
  have CPT := hid (cpIdx_any (HX.out.old HB9.out) HTS.out)
  go_upto_region 12 with (first | (go_at_call 104; refine CPT.out.mono ?_; rintro en wA ⟨vsA, rfl, hbA, hkA⟩; obtain ⟨xf, xq, rfl⟩ := idx_form hkA; have HKA := hid hkA; have HBXA := hid hbA; have HSSA := hid hbA.size; have HBA := hid (below_step HB9.out hbA); have HZA := hid ((hbA.block _ (lt_of_block HZ9.out)).trans HZ9.out); have HTA := hid ((hbA.block _ (lt_of_block HT9.out)).trans HT9.out); have HRA := hid ((hbA.block _ (lt_of_block HR9.out)).trans HR9.out); have HCA := hid (HC9.out.keep (Keep.of_below (X := fun _ => False) hbA) (fun _ e => e.elim)); clear z0 z0f z1 z1f z2 z2f z3 z3f t0 t0f t1 t1f t2 t2f t3 t3f t4 t4f t5 t5f t6 t6f r0 r0f r1 r1f r2 r2f r3 r3f; have z0 := cell_in HZA.out 0 _ rfl; have z0f := free_in HZA.out 0; have z1 := cell_in HZA.out 1 _ rfl; have z1f := free_in HZA.out 1; have z2 := cell_in HZA.out 2 _ rfl; have z2f := free_in HZA.out 2; have z3 := cell_in HZA.out 3 _ rfl; have z3f := free_in HZA.out 3; have t0 := cell_in HTA.out 0 _ rfl; have t0f := free_in HTA.out 0; have t1 := cell_in HTA.out 1 _ rfl; have t1f := free_in HTA.out 1; have t2 := cell_in HTA.out 2 _ rfl; have t2f := free_in HTA.out 2; have t3 := cell_in HTA.out 3 _ rfl; have t3f := free_in HTA.out 3; have t4 := cell_in HTA.out 4 _ rfl; have t4f := free_in HTA.out 4; have t5 := cell_in HTA.out 5 _ rfl; have t5f := free_in HTA.out 5; have t6 := cell_in HTA.out 6 _ rfl; have t6f := free_in HTA.out 6; have r0 := cell_in HRA.out 0 _ rfl; have r0f := free_in HRA.out 0; have r1 := cell_in HRA.out 1 _ rfl; have r1f := free_in HRA.out 1; have r2 := cell_in HRA.out 2 _ rfl; have r2f := free_in HRA.out 2; have r3 := cell_in HRA.out 3 _ rfl; have r3f := free_in HRA.out 3; clear hbA; clear hkA))
  obtain ⟨pz, pk⟩ := put7 HTA.out (.int .i64 x.id) (.int .i64 x.table) (.string ⟨x.name.toArray⟩) (.slice xf x.cols.length xq) (.bool x.uniq) (.int .i64 x.state) (.bool x.bad)
  generalize ((((((wA.setCell ⟨w.heap.size + 1, 0, none⟩ (.int .i64 x.id)).setCell ⟨w.heap.size + 1, 1, none⟩ (.int .i64 x.table)).setCell ⟨w.heap.size + 1, 2, none⟩ (.string ⟨x.name.toArray⟩)).setCell ⟨w.heap.size + 1, 3, none⟩ (.slice xf x.cols.length xq)).setCell ⟨w.heap.size + 1, 4, none⟩ (.bool x.uniq)).setCell ⟨w.heap.size + 1, 5, none⟩ (.int .i64 x.state)).setCell ⟨w.heap.size + 1, 6, none⟩ (.bool x.bad) = wB at *
  clear z0 z0f z1 z1f z2 z2f z3 z3f t0 t0f t1 t1f t2 t2f t3 t3f t4 t4f t5 t5f t6 t6f r0 r0f r1 r1f r2 r2f r3 r3f
  have HTB2 := hid pz
  have HKB := hid pk
  clear pz pk
  have HZB := hid ((HKB.out.block _ (lt_of_block HZA.out) (fun e => by have e9 : w.heap.size = w.heap.size + 1 := e; omega)).trans HZA.out)
  have HB6A : Hid (Below w6.heap.size w6 wA) := hid (by
    have q7 := HB67.out
    exact below_step (below_step (below_step q7 (HBX8.out)) HBX9.out) HBXA.out)
  have HTL : Hid (w3.heap.size ≤ tb) := hid (HTL0.out)
  have HKq : Hid (∀ V, Keep (fun k => k = w.heap.size + 1) wB V → V.cell? ⟨w.heap.size, 1, none⟩ = some (.int .i64 C.nxt) ∧ V.cell? ⟨w.heap.size, 2, none⟩ = some (.slice (some ⟨tb, toff, none⟩) C.tabs.length sc) ∧ V.cell? ⟨tb, toff + m * 4, none⟩ = some (.int .i64 tt.id)) := hid (fun V hV => by
    have hz9 := (hV.block _ (lt_of_block HZB.out) (fun e => by have e9 : w.heap.size = w.heap.size + 1 := e; omega)).trans HZB.out
    refine ⟨cell_in hz9 1 _ rfl, cell_in hz9 2 _ rfl, ?_⟩
    have h8 := (HB6A.out.cell (block_cell HC0.out)).trans HC0.out
    have hne : ¬ tb = w.heap.size + 1 := fun e => by have := HTL.out; have := HSZ.out; omega
    have h7 := HKB.out.trans hV
    have h6 := h7.block tb (block_cell h8) hne
    rw [← h8]; unfold World.cell?; rw [h6])
  refine wp_region_noPanic ?_
  refine wp_region_held_drew (S := fun V => Hid (Keep (fun k => k = w.heap.size + 1) wB V)) (by kernel_rfl) (hid ⟨rfl, rfl, rfl, Nat.le_refl _, fun _ _ _ => rfl⟩) (fun hHeld => ?_)
  have HTd : Hid (wB.drew.heap[w.heap.size + 1]? = some (.cells #[.int .i64 x.id, .int .i64 x.table, .string ⟨x.name.toArray⟩, .slice xf x.cols.length xq, .bool x.uniq, .int .i64 x.state, .bool x.bad] 37 (0, 0))) := HTB2
  generalize wB.drew = Wd at *
  refine tkH 0 (.pointer (some ⟨w.heap.size, 1, none⟩)) rfl (by kernel_rfl) (fun _ _ _ => False.elim) hHeld (Or.inl ⟨by rfl, fun W9 hW => by clear hHeld hW; simp only [jA, jB, jC]; go_simp⟩) ?_
  simp only [Act.put, jA, jB, jC, jD, jE, jF]
  refine tkH 1 (.int .i64 C.nxt) rfl (by kernel_rfl) (fun _ _ _ => False.elim) hHeld (Or.inl ⟨by rfl, fun W9 hW => by obtain ⟨q1, q2, q3⟩ := HKq.out _ hW.out; clear hHeld hW; simp only [jA, jB, jC]; go_simp⟩) ?_
  simp only [Act.put, jA, jB, jC, jD, jE, jF]
  refine tkH 2 (.pointer (some ⟨w.heap.size, 2, none⟩)) rfl (by kernel_rfl) (fun _ _ _ => False.elim) hHeld (Or.inl ⟨by rfl, fun W9 hW => by clear hHeld hW; simp only [jA, jB, jC]; go_simp⟩) ?_
  simp only [Act.put, jA, jB, jC, jD, jE, jF]
  refine tkH 3 (.slice (some ⟨tb, toff, none⟩) C.tabs.length sc) rfl (by kernel_rfl) (fun _ _ _ => False.elim) hHeld (Or.inl ⟨by rfl, fun W9 hW => by obtain ⟨q1, q2, q3⟩ := HKq.out _ hW.out; clear hHeld hW; simp only [jA, jB, jC]; go_simp⟩) ?_
  simp only [Act.put, jA, jB, jC, jD, jE, jF]
  refine tkH 4 (.int .i64 (m : Int)) rfl (by kernel_rfl) (fun _ _ _ => False.elim) hHeld (Or.inl ⟨by rfl, fun W9 hW => by clear hHeld hW; simp only [jA, jB, jC]; go_simp⟩) ?_
  simp only [Act.put, jA, jB, jC, jD, jE, jF]
  refine tkH 5 (.pointer (some ⟨tb, toff + m * 4, none⟩)) rfl (by kernel_rfl) (fun _ _ _ => False.elim) hHeld (Or.inl ⟨by rfl, fun W9 hW => by clear hHeld hW; simp only [jA, jB, jC]; go_simp⟩) ?_
  simp only [Act.put, jA, jB, jC, jD, jE, jF]
  refine tkH 6 (.pointer (some ⟨tb, toff + m * 4, none⟩)) rfl (by kernel_rfl) (fun _ _ _ => False.elim) hHeld (Or.inl ⟨by rfl, fun W9 hW => by clear hHeld hW; simp only [jA, jB, jC]; go_simp⟩) ?_
  simp only [Act.put, jA, jB, jC, jD, jE, jF]
  refine tkH 7 (.int .i64 tt.id) rfl (by kernel_rfl) (fun _ _ _ => False.elim) hHeld (Or.inl ⟨by rfl, fun W9 hW => by obtain ⟨q1, q2, q3⟩ := HKq.out _ hW.out; clear hHeld hW; simp only [jA, jB, jC]; go_simp⟩) ?_
  simp only [Act.put, jA, jB, jC, jD, jE, jF]
  refine tkH 8 (.pointer (some ⟨w.heap.size + 1, 0, none⟩)) rfl (by kernel_rfl) (fun _ _ _ => False.elim) hHeld (Or.inl ⟨by rfl, fun W9 hW => by clear hHeld hW; simp only [jA, jB, jC]; go_simp⟩) ?_
  simp only [Act.put, jA, jB, jC, jD, jE, jF]
  have d0 := cell_in HTd.out 0 _ rfl
  have d0f := free_in HTd.out 0
  refine rdH 9 (by kernel_rfl) rfl fun K hK => ?_
  go_simp
  have HTe := hid (put_in HTd.out 0 (.int .i64 C.nxt))
  have HKe := hid (hHeld.out.trans (keepS1 Wd (w.heap.size + 1) 0 (.int .i64 C.nxt)))
  refine hK.out _ _ HKe (fun hHeld => ?_)
  clear hK K d0 d0f
  try simp only [Act.put, jA, jB, jC, jD, jE, jF]
  generalize Wd.setCell ⟨w.heap.size + 1, 0, none⟩ (.int .i64 C.nxt) = We at *
  refine tkH 10 (.pointer (some ⟨w.heap.size + 1, 1, none⟩)) rfl (by kernel_rfl) (fun _ _ _ => False.elim) hHeld (Or.inl ⟨by rfl, fun W9 hW => by clear hHeld hW; simp only [jA, jB, jC]; go_simp⟩) ?_
  simp only [Act.put, jA, jB, jC, jD, jE, jF]
  have d1 := cell_in HTe.out 1 _ rfl
  have d1f := free_in HTe.out 1
  refine rdH 11 (by kernel_rfl) rfl fun K hK => ?_
  go_simp
  have HTf := hid (put_in HTe.out 1 (.int .i64 tt.id))
  have HKf := hid (hHeld.out.trans (keepS1 We (w.heap.size + 1) 1 (.int .i64 tt.id)))
  refine hK.out _ _ HKf (fun hHeld => ?_)
  clear hK K d1 d1f
  try simp only [Act.put, jA, jB, jC, jD, jE, jF]
  generalize We.setCell ⟨w.heap.size + 1, 1, none⟩ (.int .i64 tt.id) = Wf at *
  refine wpAnyH_done (by kernel_rfl) (NoPanic.normal ?_) _
  clear hHeld HKe
  have d5 := cell_in HTf.out 5 _ rfl
  have d5f := free_in HTf.out 5
  have d6 := cell_in HTf.out 6 _ rfl
  have d6f := free_in HTf.out 6
  go_upto_region 14 with fail
  have HTg := hid (put_in HTf.out 5 (.int .i64 1))
  have HKg := hid (HKf.out.trans (keepS1 Wf (w.heap.size + 1) 5 (.int .i64 1)))
  generalize Wf.setCell ⟨w.heap.size + 1, 5, none⟩ (.int .i64 1) = Wg at *
  have HTh := hid (put_in HTg.out 6 (.bool false))
  have HKh := hid (HKg.out.trans (keepS1 Wg (w.heap.size + 1) 6 (.bool false)))
  generalize Wg.setCell ⟨w.heap.size + 1, 6, none⟩ (.bool false) = wC at *
  clear d5 d5f d6 d6f
  have HKAC : Hid (Keep (fun k => k = w.heap.size + 1) wA wC) := hid (HKB.out.trans HKh.out)
  have HZC := hid ((HKAC.out.block _ (lt_of_block HZA.out) (fun e => by have e9 : w.heap.size = w.heap.size + 1 := e; omega)).trans HZA.out)
  have HRC := hid ((HKAC.out.block _ (lt_of_block HRA.out) (fun e => by have e9 : w.heap.size + 2 = w.heap.size + 1 := e; omega)).trans HRA.out)
  have HBC : Hid (Below w.heap.size w wC) := hid (HBA.out.trans (HKAC.out.below HBA.out.size (fun k e => by have e9 : k = w.heap.size + 1 := e; omega)))
  have z3 := cell_in HZC.out 3 _ rfl
  have t0 := cell_in HTh.out 0 _ rfl
  have t1 := cell_in HTh.out 1 _ rfl
  have t2 := cell_in HTh.out 2 _ rfl
  have t3 := cell_in HTh.out 3 _ rfl
  have t4 := cell_in HTh.out 4 _ rfl
  have t5 := cell_in HTh.out 5 _ rfl
  have t6 := cell_in HTh.out 6 _ rfl
  have HAC : Hid (Below wC.heap.size wC (wC.alloc (.cells #[.int .i64 C.nxt, .int .i64 tt.id, .string ⟨x.name.toArray⟩, .slice xf x.cols.length xq, .bool x.uniq, .int .i64 1, .bool false] 37))) := hid ((Below.refl _ _).alloc (Nat.le_refl _) _)
  have HRR := hid (heap_alloc_new wC (.cells #[.int .i64 C.nxt, .int .i64 tt.id, .string ⟨x.name.toArray⟩, .slice xf x.cols.length xq, .bool x.uniq, .int .i64 1, .bool false] 37))
  have HKD := hid (HKAC.out.trans (Keep.of_below HAC.out))
  have HCC := hid (HCA.out.keep HKD.out (fun k e => by have e9 : k = w.heap.size + 1 := e; have := HSZ.out; omega))
  have HKT := hid ((HKA.out.keep HKD.out (fun k e e9 => by have e8 : k = w.heap.size + 1 := e9; have := e.1; have := HL9.out; have := HSZ.out; omega)))
  obtain ⟨vx, vy, e9, ho1, ho2, ho3⟩ := HCC.out
  simp only [List.cons.injEq, and_true, true_and] at e9
  obtain ⟨rfl, rfl⟩ := e9
  have HO1 := hid ho1
  have HO2 := hid ho2
  have HO3 := hid ho3
  clear ho1 ho2 ho3
  have HBD := hid (below_step HBC.out HAC.out)
  have HZD := hid ((HAC.out.block _ (lt_of_block HZC.out)).trans HZC.out)
  have HRD := hid ((HAC.out.block _ (lt_of_block HRC.out)).trans HRC.out)
  have HSA : Hid (wA.heap.size ≤ wC.heap.size) := hid HKAC.out.size
  go_upto_region 15 with (first
    | (at_builtin; refine wp_lapp2 (by rfl) _ _ 23 rfl w3.heap.size 7 80 37 Try.underlying23 (.agg #[.int .i64 0, .int .i64 0, .string ⟨#[]⟩, .slice none 0 0, .bool false, .int .i64 0, .bool false]) (by kernel_rfl) (by simp [Value.cells]) (by decide) _ _ rfl HO2.out wC.heap.size [.int .i64 C.nxt, .int .i64 tt.id, .string ⟨x.name.toArray⟩, .slice xf x.cols.length xq, .bool x.uniq, .int .i64 1, .bool false] rfl (fun j q hj => cell_in HRR.out j q (by simpa using hj)) rfl (fun q hq9 => by simp only [List.mem_cons, List.not_mem_nil, or_false] at hq9; rcases hq9 with rfl | rfl | rfl | rfl | rfl | rfl | rfl <;> rfl) (by unfold maxLen; omega) (by omega) (by have := HL9.out; have := HSSA.out; have := HSA.out; have := HAC.out.size; omega) ⟨C.nxt, tt.id, x.name, x.cols, x.uniq, 1, false⟩ (fun va vc wE p1 p2 p3 => ?_)
       have hl1 := HO1.out.lt
       have hl2 := HO2.out.lt
       have HKE := hid (Keep.of_grown (X := fun q => (Value.slice ka C.idxs.length kc).ownBlock = some q) p2 (fun k hk9 => hk9))
       have HSE := hid p2.size
       have hTN : IdxN (fun k => w3.heap.size ≤ k ∧ k < wE.heap.size) wE [.int .i64 C.nxt, .int .i64 tt.id, .string ⟨x.name.toArray⟩, .slice xf x.cols.length xq, .bool x.uniq, .int .i64 1, .bool false] ⟨C.nxt, tt.id, x.name, x.cols, x.uniq, 1, false⟩ := by
         obtain ⟨x8, e8, c8, o8⟩ := HKT.out
         simp only [List.cons.injEq, and_true, true_and] at e8
         subst e8
         have hA : ∀ k, New w9 wA k → w3.heap.size ≤ k ∧ k < wE.heap.size := fun k e => ⟨by have := e.1; have := HL9.out; omega, by have := e.2; have := HSA.out; have := HAC.out.size; have := HSE.out; omega⟩
         have hX : ∀ k, New w9 wA k → ¬ (Value.slice ka C.idxs.length kc).ownBlock = some k := fun k e e9 => by have := (HC4S.out k e9); have := e.1; omega
         exact ⟨_, rfl, (c8.keep HKE.out hX).mono hA, rfl⟩
       have HOE := hid (p1 (IdxN (fun k => w3.heap.size ≤ k ∧ k < wE.heap.size)) ⟨C.nxt, tt.id, x.name, x.cols, x.uniq, 1, false⟩ (fun q c h => (h.keep HKE.out (fun k e e9 => e.1.2.2 e9)).mono (fun k e => ⟨e.1.1, by have := e.1.2.1; have := HSE.out; omega⟩)) hTN)
       have HXE := hid (HO1.out.mono (R' := TabN (fun k => w3.heap.size ≤ k ∧ k < wE.heap.size)) HKE.out (fun k e e9 => HO3.out k e e9) (fun r a h => (h.keep HKE.out (fun k e e9 => e.2 e9)).mono (fun k e => ⟨e.1.1, by have := e.1.2.1; have := HSE.out; omega⟩)))
       have HBE : Hid (Below w.heap.size w wE) := hid (HBD.out.trans (HKE.out.below HBD.out.size (fun k e => by have e9 : (Value.slice ka C.idxs.length kc).ownBlock = some k := e; have := (hl2 k e9).1; have := HSZ.out; omega)))
       have HZE := hid ((HKE.out.block _ (lt_of_block HZD.out) (fun e => by have e9 : (Value.slice ka C.idxs.length kc).ownBlock = some (w.heap.size) := e; have := (hl2 _ e9).1; have := HSZ.out; omega)).trans HZD.out)
       have HRE := hid ((HKE.out.block _ (lt_of_block HRD.out) (fun e => by have e9 : (Value.slice ka C.idxs.length kc).ownBlock = some (w.heap.size + 2) := e; have := (hl2 _ e9).1; have := HSZ.out; omega)).trans HRD.out)
       clear p1 p2 p3 hl1 hl2 hTN z3 t0 t1 t2 t3 t4 t5 t6
       have z3 := cell_in HZE.out 3 _ rfl
       have z3f := free_in HZE.out 3))
  have HZF := hid (put_in HZE.out 3 (.slice va (C.idxs.length + 1) vc))
  have HKF := hid (keepS1 wE (w.heap.size) 3 (.slice va (C.idxs.length + 1) vc))
  generalize wE.setCell ⟨w.heap.size, 3, none⟩ (.slice va (C.idxs.length + 1) vc) = wF at *
  clear z3 z3f
  have z1 := cell_in HZF.out 1 _ rfl
  have z1f := free_in HZF.out 1
  have hnw : wrap64 (C.nxt + 1) = C.nxt + 1 := by have := HN.out; unfold wrap64; omega
  have hvw : wrap64 (C.ver + 1) = C.ver + 1 := by have := HV.out; unfold wrap64; omega
  go_upto_region 16 with fail
  have HZG := hid (put_in HZF.out 1 (.int .i64 (C.nxt + 1)))
  have HKG := hid (HKF.out.trans (keepS1 wF (w.heap.size) 1 (.int .i64 (C.nxt + 1))))
  generalize wF.setCell ⟨w.heap.size, 1, none⟩ (.int .i64 (C.nxt + 1)) = wG at *
  clear z1 z1f hnw
  have z0 := cell_in HZG.out 0 _ rfl
  have z0f := free_in HZG.out 0
  go_upto_region 17 with fail
  have HZH := hid (put_in HZG.out 0 (.int .i64 (C.ver + 1)))
  have HKH := hid (HKG.out.trans (keepS1 wG (w.heap.size) 0 (.int .i64 (C.ver + 1))))
  generalize wG.setCell ⟨w.heap.size, 0, none⟩ (.int .i64 (C.ver + 1)) = wH at *
  clear z0 z0f hvw
  have HRH := hid ((HKH.out.block _ (lt_of_block HRE.out) (fun e => by have e9 : w.heap.size + 2 = w.heap.size := e; omega)).trans HRE.out)
  have z0 := cell_in HZH.out 0 _ rfl
  have r0 := cell_in HRH.out 0 _ rfl
  have r0f := free_in HRH.out 0
  have z1 := cell_in HZH.out 1 _ rfl
  have r1 := cell_in HRH.out 1 _ rfl
  have r1f := free_in HRH.out 1
  have z2 := cell_in HZH.out 2 _ rfl
  have r2 := cell_in HRH.out 2 _ rfl
  have r2f := free_in HRH.out 2
  have z3 := cell_in HZH.out 3 _ rfl
  have r3 := cell_in HRH.out 3 _ rfl
  have r3f := free_in HRH.out 3
  go_wp2_with fail
  obtain ⟨p1, p2⟩ := put4 HRH.out (.int .i64 (C.ver + 1)) (.int .i64 (C.nxt + 1)) (.slice (some ⟨tb, toff, none⟩) C.tabs.length sc) (.slice va (C.idxs.length + 1) vc)
  generalize (((wH.setCell ⟨w.heap.size + 2, 0, none⟩ (.int .i64 (C.ver + 1))).setCell ⟨w.heap.size + 2, 1, none⟩ (.int .i64 (C.nxt + 1))).setCell ⟨w.heap.size + 2, 2, none⟩ (.slice (some ⟨tb, toff, none⟩) C.tabs.length sc)).setCell ⟨w.heap.size + 2, 3, none⟩ (.slice va (C.idxs.length + 1) vc) = s4 at *
  refine bodyPost_ret (results_cell2 rfl _ _ (w.heap.size + 2) 25 _ (0, 0) _ rfl p1 Try.underlying25 rfl (by kernel_rfl)) rfl ?_
  rw [HD.out]
  have e1 := HSZ.out
  have e2 := HBE.out.size
  have e3 := p2.size
  have e4 := HKH.out.size
  have hk : Keep (fun k => k = w.heap.size ∨ k = w.heap.size + 2) wE s4 := (HKH.out.mono (fun k _ e => Or.inl e)).trans (p2.mono (fun k _ e => Or.inr e))
  have hb9 : Below w.heap.size w s4 := HBE.out.trans (hk.below (by omega) (fun k e => by rcases e with e | e <;> omega))
  have hno : ∀ k, w3.heap.size ≤ k → ¬ (k = w.heap.size ∨ k = w.heap.size + 2) := fun k e e9 => by rcases e9 with e9 | e9 <;> omega
  have hl1 := HXE.out.lt
  have hl2 := HOE.out.lt
  have q1 := ((HXE.out.lst (fun k => w3.heap.size ≤ k ∧ k < wE.heap.size) (fun k e => hl1 k e)).keep hk (fun k e => hno k e.1) (fun r a h => h.keep hk (fun k e => hno k e.1))).mono (R' := TabN (New w s4)) (N' := New w s4) (fun k e => ⟨by omega, by omega⟩) (fun r a h => h.mono (fun k e => ⟨by have := e.1; omega, by have := e.2; omega⟩))
  have q2 := ((HOE.out.lst (fun k => w3.heap.size ≤ k ∧ k < wE.heap.size) (fun k e => hl2 k e)).keep hk (fun k e => hno k e.1) (fun r a h => h.keep hk (fun k e => hno k e.1))).mono (R' := IdxN (New w s4)) (N' := New w s4) (fun k e => ⟨by omega, by omega⟩) (fun r a h => h.mono (fun k e => ⟨by have := e.1; omega, by have := e.2; omega⟩))
  have hc9 : CatN (New w s4) s4 [.int .i64 (C.ver + 1), .int .i64 (C.nxt + 1), .slice (some ⟨tb, toff, none⟩) C.tabs.length sc, .slice va (C.idxs.length + 1) vc] (addIdx C tt.id x) := ⟨_, _, rfl, q1, q2, rfl, rfl⟩
  exact ⟨_, rfl, hb9, hc9⟩
end Go.Proofs.Ytafcbelkhhjcoaa
