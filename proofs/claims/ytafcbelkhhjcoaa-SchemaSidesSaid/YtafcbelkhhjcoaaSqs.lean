/-
  LAYER 12, THE CODE's: AddTable (made by src2/gen_schadd.py).
-/
import Derived.Test.YtafcbelkhhjcoaaSqr
import Derived.Test.YtafcbelkhhjcoaaSn
set_option linter.unusedVariables false
set_option linter.unusedSimpArgs false
set_option maxRecDepth 100000
namespace Go.Proofs.Ytafcbelkhhjcoaa
open Go.RowKit Go.Deep

theorem CatO.keep {base : Nat} {X : Nat → Prop} {w w' : World} {cs : List Value} {C : Cat} (h : CatO base w cs C) (hk : Keep X w w') (hx : ∀ k, X k → k < base) : CatO base w' cs C := by
  obtain ⟨x, y, rfl, h1, h2, h3⟩ := h
  refine ⟨x, y, rfl, ?_, ?_, h3⟩
  · exact h1.mono hk (fun k e e9 => by have := (h1.lt k e).1; have := hx k e9; omega) (fun r a h => (h.keep hk (fun k e e9 => by have := e.1.1; have := hx k e9; omega)).mono (fun k e => ⟨⟨e.1.1, Nat.lt_of_lt_of_le e.1.2.1 hk.size, e.1.2.2⟩, e.2⟩))
  · exact h2.mono hk (fun k e e9 => by have := (h2.lt k e).1; have := hx k e9; omega) (fun r a h => (h.keep hk (fun k e e9 => by have := e.1.1; have := hx k e9; omega)).mono (fun k e => ⟨⟨e.1.1, Nat.lt_of_lt_of_le e.1.2.1 hk.size, e.1.2.2⟩, e.2⟩))

theorem CatO.own1 {base : Nat} {w : World} {v0 v1 x y : Value} {C : Cat} (h : CatO base w [v0, v1, x, y] C) : ∀ k, x.ownBlock = some k → base ≤ k ∧ k < w.heap.size := by
  obtain ⟨x', y', e, h1, -, -⟩ := h
  simp only [List.cons.injEq, and_true] at e
  obtain ⟨-, -, rfl, rfl⟩ := e
  exact h1.lt

/-- What a change of the code tells: all in new memory. -/
def ChN (w : World) (R : Cat × Int) (e : Ending) (w' : World) : Prop :=
  ∃ vs : List Value, e = .returned (.tuple #[.agg vs.toArray, .int .i64 R.2]) ∧ Below w.heap.size w w' ∧ CatN (New w w') w' vs R.1

set_option maxHeartbeats 16000000 in
theorem addTable_any {N Nt : Nat → Prop} {w : World} {cs ts : List Value} {C : Cat} {t : Tab} (h : CatN N w cs C) (hS : C.S) (hv : -9223372036854775808 ≤ C.ver ∧ C.ver < 9223372036854775807) (hn : -9223372036854775808 ≤ C.nxt)
    (ht : TabN Nt w ts t) (htW : t.W) (htS : t.cols.length ≤ 100 ∧ t.key.length ≤ 100) :
    Calls Try.prog 32 #[.agg cs.toArray, .agg ts.toArray] w (ChN w (addTableM C t)) := by
  have HH := hid h
  have HT := hid ht
  have HW := hid htW
  have HTS := hid htS
  obtain ⟨a, c, a', c', rfl, -, -, hl1, hl2⟩ := cat_open h
  obtain ⟨ta, tc, tb, td, rfl⟩ := tab_form ht
  have hil : C.tabs.length ≤ 100 := hS.1
  have HS := hid hS
  have HV := hid hv
  have HN := hid hn
  have hv2 := hv.2
  clear h ht hS hn htW htS
  go_enter Try.func32, Try.ntmps32
  go_upto_region 1 with fail
  have hb := (Below.refl w.heap.size w).alloc (Nat.le_refl _) (.cells #[.int .i64 C.ver, .int .i64 C.nxt, .slice a C.tabs.length c, .slice a' C.idxs.length c'] 25)
  have hz := heap_alloc_new w (.cells #[.int .i64 C.ver, .int .i64 C.nxt, .slice a C.tabs.length c, .slice a' C.idxs.length c'] 25)
  have hsz : (w.alloc (.cells #[.int .i64 C.ver, .int .i64 C.nxt, .slice a C.tabs.length c, .slice a' C.idxs.length c'] 25)).heap.size = w.heap.size + 1 := by simp
  generalize w.alloc (.cells #[.int .i64 C.ver, .int .i64 C.nxt, .slice a C.tabs.length c, .slice a' C.idxs.length c'] 25) = w1 at *
  have hz2 := heap_alloc_new w1 (.cells #[.int .i64 t.id, .string ⟨t.name.toArray⟩, .slice ta t.cols.length tc, .slice tb t.key.length td] 33)
  have hb2 := hb.alloc hb.size (.cells #[.int .i64 t.id, .string ⟨t.name.toArray⟩, .slice ta t.cols.length tc, .slice tb t.key.length td] 33)
  have hzk := (((Below.refl _ w1).alloc (Nat.le_refl _) (.cells #[.int .i64 t.id, .string ⟨t.name.toArray⟩, .slice ta t.cols.length tc, .slice tb t.key.length td] 33)).block _ (lt_of_block hz)).trans hz
  have hsz2 : (w1.alloc (.cells #[.int .i64 t.id, .string ⟨t.name.toArray⟩, .slice ta t.cols.length tc, .slice tb t.key.length td] 33)).heap.size = w.heap.size + 2 := by simp [hsz]
  rw [hsz] at hz2
  generalize w1.alloc (.cells #[.int .i64 t.id, .string ⟨t.name.toArray⟩, .slice ta t.cols.length tc, .slice tb t.key.length td] 33) = w2 at *
  have hz3 := heap_alloc_new w2 (.cells #[.int .i64 0, .int .i64 0, .slice none 0 0, .slice none 0 0] 25)
  have hb3 := hb2.alloc hb2.size (.cells #[.int .i64 0, .int .i64 0, .slice none 0 0, .slice none 0 0] 25)
  have hzk2 := (((Below.refl _ w2).alloc (Nat.le_refl _) (.cells #[.int .i64 0, .int .i64 0, .slice none 0 0, .slice none 0 0] 25)).block _ (lt_of_block hzk)).trans hzk
  have hzt2 := (((Below.refl _ w2).alloc (Nat.le_refl _) (.cells #[.int .i64 0, .int .i64 0, .slice none 0 0, .slice none 0 0] 25)).block _ (lt_of_block hz2)).trans hz2
  have hsz3 : (w2.alloc (.cells #[.int .i64 0, .int .i64 0, .slice none 0 0, .slice none 0 0] 25)).heap.size = w.heap.size + 3 := by simp [hsz2]
  rw [hsz2] at hz3
  generalize w2.alloc (.cells #[.int .i64 0, .int .i64 0, .slice none 0 0, .slice none 0 0] 25) = w3 at *
  have HB3 := hid hb3
  have HZ3 := hid hzk2
  have HT3 := hid hzt2
  have HR3 := hid hz3
  have HSZ := hid hsz3
  clear hz hz2 hz3 hb hb2 hb3 hzk hzk2 hzt2 hsz hsz2 hsz3
  have z0 := cell_in HZ3.out 0 _ rfl
  have z1 := cell_in HZ3.out 1 _ rfl
  have z2 := cell_in HZ3.out 2 _ rfl
  have z3 := cell_in HZ3.out 3 _ rfl
  have CC := hid (copied_any (HH.out.old HB3.out) HS.out)
  go_upto_region 2 with (first | (go_at_call 106; refine CC.out.mono ?_; rintro en w4 ⟨vs, rfl, hb4, hc4⟩; have HC4 := hid hc4; obtain ⟨vx, vy, rfl, ho1, ho2, -⟩ := hc4; obtain ⟨sa, sc, rfl⟩ := own_form ho1; obtain ⟨ka, kc, rfl⟩ := own_form ho2; have HB34 := hid hb4.size; have HB4 := hid (below_step HB3.out hb4); have HZ4 := hid ((hb4.block _ (lt_of_block HZ3.out)).trans HZ3.out); have HT4 := hid ((hb4.block _ (lt_of_block HT3.out)).trans HT3.out); have HR4 := hid ((hb4.block _ (lt_of_block HR3.out)).trans HR3.out); clear hb4 ho1 ho2 z0 z1 z2 z3; have z0 := cell_in HZ4.out 0 _ rfl; have z1 := cell_in HZ4.out 1 _ rfl; have z2 := cell_in HZ4.out 2 _ rfl; have z3 := cell_in HZ4.out 3 _ rfl; have z0f := free_in HZ4.out 0; have z1f := free_in HZ4.out 1; have z2f := free_in HZ4.out 2; have z3f := free_in HZ4.out 3))
  obtain ⟨pz, pk⟩ := put4 HZ4.out (.int .i64 C.ver) (.int .i64 C.nxt) (.slice sa C.tabs.length sc) (.slice ka C.idxs.length kc)
  generalize (((w4.setCell ⟨w.heap.size, 0, none⟩ (.int .i64 C.ver)).setCell ⟨w.heap.size, 1, none⟩ (.int .i64 C.nxt)).setCell ⟨w.heap.size, 2, none⟩ (.slice sa C.tabs.length sc)).setCell ⟨w.heap.size, 3, none⟩ (.slice ka C.idxs.length kc) = w5 at *
  have HZ5 := hid pz
  have HK5 := hid pk
  clear pz pk z0 z1 z2 z3 z0f z1f z2f z3f
  have HT5 := hid ((HK5.out.block _ (lt_of_block HT4.out) (fun e => by have e9 : w.heap.size + 1 = w.heap.size := e; omega)).trans HT4.out)
  have HR5 := hid ((HK5.out.block _ (lt_of_block HR4.out) (fun e => by have e9 : w.heap.size + 2 = w.heap.size := e; omega)).trans HR4.out)
  have HC5 := hid (HC4.out.keep HK5.out (fun k e => by have e9 : k = w.heap.size := e; have := HSZ.out; omega))
  have HB5 : Hid (Below w.heap.size w w5) := hid (HB4.out.trans (HK5.out.below HB4.out.size (fun k e => by have e9 : k = w.heap.size := e; omega)))
  have z0 := cell_in HZ5.out 0 _ rfl
  have z0f := free_in HZ5.out 0
  have z1 := cell_in HZ5.out 1 _ rfl
  have z1f := free_in HZ5.out 1
  have z2 := cell_in HZ5.out 2 _ rfl
  have z2f := free_in HZ5.out 2
  have z3 := cell_in HZ5.out 3 _ rfl
  have z3f := free_in HZ5.out 3
  have t0 := cell_in HT5.out 0 _ rfl
  have t0f := free_in HT5.out 0
  have t1 := cell_in HT5.out 1 _ rfl
  have t1f := free_in HT5.out 1
  have t2 := cell_in HT5.out 2 _ rfl
  have t2f := free_in HT5.out 2
  have t3 := cell_in HT5.out 3 _ rfl
  have t3f := free_in HT5.out 3
  have r0 := cell_in HR5.out 0 _ rfl
  have r0f := free_in HR5.out 0
  have r1 := cell_in HR5.out 1 _ rfl
  have r1f := free_in HR5.out 1
  have r2 := cell_in HR5.out 2 _ rfl
  have r2f := free_in HR5.out 2
  have r3 := cell_in HR5.out 3 _ rfl
  have r3f := free_in HR5.out 3
  have CF := hid (tabFits_any (HT.out.old HB5.out) HW.out)
  cases hq : tabB t with
  | false =>
    have HD : Hid (addTableM C t = (C, 9)) := hid (by unfold addTableM; rw [if_pos hq])
    rw [hq] at CF
    clear hq
    go_wp2_with (first | (go_at_call 113; refine CF.out.mono ?_; rintro en w6 ⟨rfl, hb6⟩; have HSS6 := hid hb6.size; have HB6 := hid (below_step HB5.out hb6); have HZ6 := hid ((hb6.block _ (lt_of_block HZ5.out)).trans HZ5.out); have HT6 := hid ((hb6.block _ (lt_of_block HT5.out)).trans HT5.out); have HR6 := hid ((hb6.block _ (lt_of_block HR5.out)).trans HR5.out); have HC6 := hid (HC5.out.keep (Keep.of_below (X := fun _ => False) hb6) (fun _ e => e.elim)); clear z0 z1 z2 z3 t0 t1 t2 t3 r0 r1 r2 r3 z0f z1f z2f z3f t0f t1f t2f t3f r0f r1f r2f r3f; have z0 := cell_in HZ6.out 0 _ rfl; have z0f := free_in HZ6.out 0; have z1 := cell_in HZ6.out 1 _ rfl; have z1f := free_in HZ6.out 1; have z2 := cell_in HZ6.out 2 _ rfl; have z2f := free_in HZ6.out 2; have z3 := cell_in HZ6.out 3 _ rfl; have z3f := free_in HZ6.out 3; have t0 := cell_in HT6.out 0 _ rfl; have t0f := free_in HT6.out 0; have t1 := cell_in HT6.out 1 _ rfl; have t1f := free_in HT6.out 1; have t2 := cell_in HT6.out 2 _ rfl; have t2f := free_in HT6.out 2; have t3 := cell_in HT6.out 3 _ rfl; have t3f := free_in HT6.out 3; have r0 := cell_in HR6.out 0 _ rfl; have r0f := free_in HR6.out 0; have r1 := cell_in HR6.out 1 _ rfl; have r1f := free_in HR6.out 1; have r2 := cell_in HR6.out 2 _ rfl; have r2f := free_in HR6.out 2; have r3 := cell_in HR6.out 3 _ rfl; have r3f := free_in HR6.out 3; clear hb6; have CTA := hid (tableAt_any HC6.out.cat t.name)))
    obtain ⟨p1, p2⟩ := put4 HR6.out (.int .i64 C.ver) (.int .i64 C.nxt) (.slice sa C.tabs.length sc) (.slice ka C.idxs.length kc)
    generalize (((w6.setCell ⟨w.heap.size + 2, 0, none⟩ (.int .i64 C.ver)).setCell ⟨w.heap.size + 2, 1, none⟩ (.int .i64 C.nxt)).setCell ⟨w.heap.size + 2, 2, none⟩ (.slice sa C.tabs.length sc)).setCell ⟨w.heap.size + 2, 3, none⟩ (.slice ka C.idxs.length kc) = s4 at *
    refine bodyPost_ret (results_cell2 rfl _ _ (w.heap.size + 2) 25 _ (0, 0) _ rfl p1 Try.underlying25 rfl (by kernel_rfl)) rfl ?_
    have e1 := HSZ.out
    have e2 := HB6.out.size
    have e3 := p2.size
    rw [HD.out]
    exact ⟨_, rfl, HB6.out.trans (p2.below (by omega) (fun k e => by have e8 : k = w.heap.size + 2 := e; omega)), (HC6.out.keep p2 (fun k e => by have e8 : k = w.heap.size + 2 := e; omega)).cat.mono (fun k e => ⟨by have := e.1; omega, e.2⟩)⟩
  | true =>
  have hq9 : ¬ tabB t = false := by rw [hq]; decide
  rw [hq] at CF
  clear hq
  have FC := fidx_cases (fun q => decide (q.name = t.name)) C.tabs
  rcases FC with ⟨f1, f2, -⟩ | ⟨m, c0, f1, f2, f3, f4, f5⟩
  case inr =>
    have HD : Hid (addTableM C t = (C, 6)) := hid (by unfold addTableM; rw [if_neg hq9, f3]; exact if_pos rfl)
    have hm0 : (0 : Int) ≤ (m : Int) := by omega
    have HF1 := hid f1
    clear hq9 f1 f2 f3 f4 f5
    go_wp2_with (first | (go_at_call 113; refine CF.out.mono ?_; rintro en w6 ⟨rfl, hb6⟩; have HSS6 := hid hb6.size; have HB6 := hid (below_step HB5.out hb6); have HZ6 := hid ((hb6.block _ (lt_of_block HZ5.out)).trans HZ5.out); have HT6 := hid ((hb6.block _ (lt_of_block HT5.out)).trans HT5.out); have HR6 := hid ((hb6.block _ (lt_of_block HR5.out)).trans HR5.out); have HC6 := hid (HC5.out.keep (Keep.of_below (X := fun _ => False) hb6) (fun _ e => e.elim)); clear z0 z1 z2 z3 t0 t1 t2 t3 r0 r1 r2 r3 z0f z1f z2f z3f t0f t1f t2f t3f r0f r1f r2f r3f; have z0 := cell_in HZ6.out 0 _ rfl; have z0f := free_in HZ6.out 0; have z1 := cell_in HZ6.out 1 _ rfl; have z1f := free_in HZ6.out 1; have z2 := cell_in HZ6.out 2 _ rfl; have z2f := free_in HZ6.out 2; have z3 := cell_in HZ6.out 3 _ rfl; have z3f := free_in HZ6.out 3; have t0 := cell_in HT6.out 0 _ rfl; have t0f := free_in HT6.out 0; have t1 := cell_in HT6.out 1 _ rfl; have t1f := free_in HT6.out 1; have t2 := cell_in HT6.out 2 _ rfl; have t2f := free_in HT6.out 2; have t3 := cell_in HT6.out 3 _ rfl; have t3f := free_in HT6.out 3; have r0 := cell_in HR6.out 0 _ rfl; have r0f := free_in HR6.out 0; have r1 := cell_in HR6.out 1 _ rfl; have r1f := free_in HR6.out 1; have r2 := cell_in HR6.out 2 _ rfl; have r2f := free_in HR6.out 2; have r3 := cell_in HR6.out 3 _ rfl; have r3f := free_in HR6.out 3; clear hb6; have CTA := hid (tableAt_any HC6.out.cat t.name)) | (go_at_call 101; refine CTA.out.mono ?_; rintro en w7 ⟨rfl, hb7⟩; have HSS7 := hid hb7.size; have HB7 := hid (below_step HB6.out hb7); have HZ7 := hid ((hb7.block _ (lt_of_block HZ6.out)).trans HZ6.out); have HT7 := hid ((hb7.block _ (lt_of_block HT6.out)).trans HT6.out); have HR7 := hid ((hb7.block _ (lt_of_block HR6.out)).trans HR6.out); have HC7 := hid (HC6.out.keep (Keep.of_below (X := fun _ => False) hb7) (fun _ e => e.elim)); clear z0 z1 z2 z3 t0 t1 t2 t3 r0 r1 r2 r3 z0f z1f z2f z3f t0f t1f t2f t3f r0f r1f r2f r3f; have z0 := cell_in HZ7.out 0 _ rfl; have z0f := free_in HZ7.out 0; have z1 := cell_in HZ7.out 1 _ rfl; have z1f := free_in HZ7.out 1; have z2 := cell_in HZ7.out 2 _ rfl; have z2f := free_in HZ7.out 2; have z3 := cell_in HZ7.out 3 _ rfl; have z3f := free_in HZ7.out 3; have t0 := cell_in HT7.out 0 _ rfl; have t0f := free_in HT7.out 0; have t1 := cell_in HT7.out 1 _ rfl; have t1f := free_in HT7.out 1; have t2 := cell_in HT7.out 2 _ rfl; have t2f := free_in HT7.out 2; have t3 := cell_in HT7.out 3 _ rfl; have t3f := free_in HT7.out 3; have r0 := cell_in HR7.out 0 _ rfl; have r0f := free_in HR7.out 0; have r1 := cell_in HR7.out 1 _ rfl; have r1f := free_in HR7.out 1; have r2 := cell_in HR7.out 2 _ rfl; have r2f := free_in HR7.out 2; have r3 := cell_in HR7.out 3 _ rfl; have r3f := free_in HR7.out 3; clear hb7; rw [HF1.out]; have CCN := hid (counts_any HC7.out.cat HV.out.2)))
    obtain ⟨p1, p2⟩ := put4 HR7.out (.int .i64 C.ver) (.int .i64 C.nxt) (.slice sa C.tabs.length sc) (.slice ka C.idxs.length kc)
    generalize (((w7.setCell ⟨w.heap.size + 2, 0, none⟩ (.int .i64 C.ver)).setCell ⟨w.heap.size + 2, 1, none⟩ (.int .i64 C.nxt)).setCell ⟨w.heap.size + 2, 2, none⟩ (.slice sa C.tabs.length sc)).setCell ⟨w.heap.size + 2, 3, none⟩ (.slice ka C.idxs.length kc) = s4 at *
    refine bodyPost_ret (results_cell2 rfl _ _ (w.heap.size + 2) 25 _ (0, 0) _ rfl p1 Try.underlying25 rfl (by kernel_rfl)) rfl ?_
    have e1 := HSZ.out
    have e2 := HB7.out.size
    have e3 := p2.size
    rw [HD.out]
    exact ⟨_, rfl, HB7.out.trans (p2.below (by omega) (fun k e => by have e8 : k = w.heap.size + 2 := e; omega)), (HC7.out.keep p2 (fun k e => by have e8 : k = w.heap.size + 2 := e; omega)).cat.mono (fun k e => ⟨by have := e.1; omega, e.2⟩)⟩
  have hs9 : ¬ (C.tabs.find? fun q => decide (q.name = t.name)).isSome = true := by rw [f2]; decide
  have HF1 := hid f1
  clear f1 f2
  go_upto_region 6 with (first | (go_at_call 113; refine CF.out.mono ?_; rintro en w6 ⟨rfl, hb6⟩; have HSS6 := hid hb6.size; have HB6 := hid (below_step HB5.out hb6); have HZ6 := hid ((hb6.block _ (lt_of_block HZ5.out)).trans HZ5.out); have HT6 := hid ((hb6.block _ (lt_of_block HT5.out)).trans HT5.out); have HR6 := hid ((hb6.block _ (lt_of_block HR5.out)).trans HR5.out); have HC6 := hid (HC5.out.keep (Keep.of_below (X := fun _ => False) hb6) (fun _ e => e.elim)); clear z0 z1 z2 z3 t0 t1 t2 t3 r0 r1 r2 r3 z0f z1f z2f z3f t0f t1f t2f t3f r0f r1f r2f r3f; have z0 := cell_in HZ6.out 0 _ rfl; have z0f := free_in HZ6.out 0; have z1 := cell_in HZ6.out 1 _ rfl; have z1f := free_in HZ6.out 1; have z2 := cell_in HZ6.out 2 _ rfl; have z2f := free_in HZ6.out 2; have z3 := cell_in HZ6.out 3 _ rfl; have z3f := free_in HZ6.out 3; have t0 := cell_in HT6.out 0 _ rfl; have t0f := free_in HT6.out 0; have t1 := cell_in HT6.out 1 _ rfl; have t1f := free_in HT6.out 1; have t2 := cell_in HT6.out 2 _ rfl; have t2f := free_in HT6.out 2; have t3 := cell_in HT6.out 3 _ rfl; have t3f := free_in HT6.out 3; have r0 := cell_in HR6.out 0 _ rfl; have r0f := free_in HR6.out 0; have r1 := cell_in HR6.out 1 _ rfl; have r1f := free_in HR6.out 1; have r2 := cell_in HR6.out 2 _ rfl; have r2f := free_in HR6.out 2; have r3 := cell_in HR6.out 3 _ rfl; have r3f := free_in HR6.out 3; clear hb6; have CTA := hid (tableAt_any HC6.out.cat t.name)) | (go_at_call 101; refine CTA.out.mono ?_; rintro en w7 ⟨rfl, hb7⟩; have HSS7 := hid hb7.size; have HB7 := hid (below_step HB6.out hb7); have HZ7 := hid ((hb7.block _ (lt_of_block HZ6.out)).trans HZ6.out); have HT7 := hid ((hb7.block _ (lt_of_block HT6.out)).trans HT6.out); have HR7 := hid ((hb7.block _ (lt_of_block HR6.out)).trans HR6.out); have HC7 := hid (HC6.out.keep (Keep.of_below (X := fun _ => False) hb7) (fun _ e => e.elim)); clear z0 z1 z2 z3 t0 t1 t2 t3 r0 r1 r2 r3 z0f z1f z2f z3f t0f t1f t2f t3f r0f r1f r2f r3f; have z0 := cell_in HZ7.out 0 _ rfl; have z0f := free_in HZ7.out 0; have z1 := cell_in HZ7.out 1 _ rfl; have z1f := free_in HZ7.out 1; have z2 := cell_in HZ7.out 2 _ rfl; have z2f := free_in HZ7.out 2; have z3 := cell_in HZ7.out 3 _ rfl; have z3f := free_in HZ7.out 3; have t0 := cell_in HT7.out 0 _ rfl; have t0f := free_in HT7.out 0; have t1 := cell_in HT7.out 1 _ rfl; have t1f := free_in HT7.out 1; have t2 := cell_in HT7.out 2 _ rfl; have t2f := free_in HT7.out 2; have t3 := cell_in HT7.out 3 _ rfl; have t3f := free_in HT7.out 3; have r0 := cell_in HR7.out 0 _ rfl; have r0f := free_in HR7.out 0; have r1 := cell_in HR7.out 1 _ rfl; have r1f := free_in HR7.out 1; have r2 := cell_in HR7.out 2 _ rfl; have r2f := free_in HR7.out 2; have r3 := cell_in HR7.out 3 _ rfl; have r3f := free_in HR7.out 3; clear hb7; rw [HF1.out]; have CCN := hid (counts_any HC7.out.cat HV.out.2)))
  by_cases h6 : 6 ≤ C.tabs.length
  case pos =>
    have HD : Hid (addTableM C t = (C, 4)) := hid (by unfold addTableM; rw [if_neg hq9, if_neg hs9, if_pos (Or.inl h6)])
    have h6i : (6 : Int) ≤ (C.tabs.length : Int) := by omega
    clear hq9 hs9
    go_wp2_with fail
    obtain ⟨p1, p2⟩ := put4 HR7.out (.int .i64 C.ver) (.int .i64 C.nxt) (.slice sa C.tabs.length sc) (.slice ka C.idxs.length kc)
    generalize (((w7.setCell ⟨w.heap.size + 2, 0, none⟩ (.int .i64 C.ver)).setCell ⟨w.heap.size + 2, 1, none⟩ (.int .i64 C.nxt)).setCell ⟨w.heap.size + 2, 2, none⟩ (.slice sa C.tabs.length sc)).setCell ⟨w.heap.size + 2, 3, none⟩ (.slice ka C.idxs.length kc) = s4 at *
    refine bodyPost_ret (results_cell2 rfl _ _ (w.heap.size + 2) 25 _ (0, 0) _ rfl p1 Try.underlying25 rfl (by kernel_rfl)) rfl ?_
    have e1 := HSZ.out
    have e2 := HB7.out.size
    have e3 := p2.size
    rw [HD.out]
    exact ⟨_, rfl, HB7.out.trans (p2.below (by omega) (fun k e => by have e8 : k = w.heap.size + 2 := e; omega)), (HC7.out.keep p2 (fun k e => by have e8 : k = w.heap.size + 2 := e; omega)).cat.mono (fun k e => ⟨by have := e.1; omega, e.2⟩)⟩
  have h6i : ¬ (6 : Int) ≤ (C.tabs.length : Int) := by omega
  by_cases hx : 1073741824 ≤ C.nxt
  case pos =>
    have HD : Hid (addTableM C t = (C, 4)) := hid (by unfold addTableM; rw [if_neg hq9, if_neg hs9, if_pos (Or.inr hx)])
    rw [decide_eq_false (by omega : ¬ C.nxt < 1073741824)] at CCN
    clear hq9 hs9
    go_wp2_with (first | (go_at_call 108; refine CCN.out.mono ?_; rintro en w8 ⟨rfl, hb8⟩; have HB78 := hid hb8.size; have HSS8 := hid hb8.size; have HB8 := hid (below_step HB7.out hb8); have HZ8 := hid ((hb8.block _ (lt_of_block HZ7.out)).trans HZ7.out); have HT8 := hid ((hb8.block _ (lt_of_block HT7.out)).trans HT7.out); have HR8 := hid ((hb8.block _ (lt_of_block HR7.out)).trans HR7.out); have HC8 := hid (HC7.out.keep (Keep.of_below (X := fun _ => False) hb8) (fun _ e => e.elim)); clear z0 z1 z2 z3 t0 t1 t2 t3 r0 r1 r2 r3 z0f z1f z2f z3f t0f t1f t2f t3f r0f r1f r2f r3f; have z0 := cell_in HZ8.out 0 _ rfl; have z0f := free_in HZ8.out 0; have z1 := cell_in HZ8.out 1 _ rfl; have z1f := free_in HZ8.out 1; have z2 := cell_in HZ8.out 2 _ rfl; have z2f := free_in HZ8.out 2; have z3 := cell_in HZ8.out 3 _ rfl; have z3f := free_in HZ8.out 3; have t0 := cell_in HT8.out 0 _ rfl; have t0f := free_in HT8.out 0; have t1 := cell_in HT8.out 1 _ rfl; have t1f := free_in HT8.out 1; have t2 := cell_in HT8.out 2 _ rfl; have t2f := free_in HT8.out 2; have t3 := cell_in HT8.out 3 _ rfl; have t3f := free_in HT8.out 3; have r0 := cell_in HR8.out 0 _ rfl; have r0f := free_in HR8.out 0; have r1 := cell_in HR8.out 1 _ rfl; have r1f := free_in HR8.out 1; have r2 := cell_in HR8.out 2 _ rfl; have r2f := free_in HR8.out 2; have r3 := cell_in HR8.out 3 _ rfl; have r3f := free_in HR8.out 3; clear hb8))
    obtain ⟨p1, p2⟩ := put4 HR8.out (.int .i64 C.ver) (.int .i64 C.nxt) (.slice sa C.tabs.length sc) (.slice ka C.idxs.length kc)
    generalize (((w8.setCell ⟨w.heap.size + 2, 0, none⟩ (.int .i64 C.ver)).setCell ⟨w.heap.size + 2, 1, none⟩ (.int .i64 C.nxt)).setCell ⟨w.heap.size + 2, 2, none⟩ (.slice sa C.tabs.length sc)).setCell ⟨w.heap.size + 2, 3, none⟩ (.slice ka C.idxs.length kc) = s4 at *
    refine bodyPost_ret (results_cell2 rfl _ _ (w.heap.size + 2) 25 _ (0, 0) _ rfl p1 Try.underlying25 rfl (by kernel_rfl)) rfl ?_
    have e1 := HSZ.out
    have e2 := HB8.out.size
    have e3 := p2.size
    rw [HD.out]
    exact ⟨_, rfl, HB8.out.trans (p2.below (by omega) (fun k e => by have e8 : k = w.heap.size + 2 := e; omega)), (HC8.out.keep p2 (fun k e => by have e8 : k = w.heap.size + 2 := e; omega)).cat.mono (fun k e => ⟨by have := e.1; omega, e.2⟩)⟩
  have HD : Hid (addTableM C t = (addTab C t, 0)) := hid (by unfold addTableM; rw [if_neg hq9, if_neg hs9, if_neg (by omega)])
  rw [decide_eq_true (by omega : C.nxt < 1073741824)] at CCN
  clear hq9 hs9
  go_upto_region 8 with (first | (go_at_call 108; refine CCN.out.mono ?_; rintro en w8 ⟨rfl, hb8⟩; have HB78 := hid hb8.size; have HSS8 := hid hb8.size; have HB8 := hid (below_step HB7.out hb8); have HZ8 := hid ((hb8.block _ (lt_of_block HZ7.out)).trans HZ7.out); have HT8 := hid ((hb8.block _ (lt_of_block HT7.out)).trans HT7.out); have HR8 := hid ((hb8.block _ (lt_of_block HR7.out)).trans HR7.out); have HC8 := hid (HC7.out.keep (Keep.of_below (X := fun _ => False) hb8) (fun _ e => e.elim)); clear z0 z1 z2 z3 t0 t1 t2 t3 r0 r1 r2 r3 z0f z1f z2f z3f t0f t1f t2f t3f r0f r1f r2f r3f; have z0 := cell_in HZ8.out 0 _ rfl; have z0f := free_in HZ8.out 0; have z1 := cell_in HZ8.out 1 _ rfl; have z1f := free_in HZ8.out 1; have z2 := cell_in HZ8.out 2 _ rfl; have z2f := free_in HZ8.out 2; have z3 := cell_in HZ8.out 3 _ rfl; have z3f := free_in HZ8.out 3; have t0 := cell_in HT8.out 0 _ rfl; have t0f := free_in HT8.out 0; have t1 := cell_in HT8.out 1 _ rfl; have t1f := free_in HT8.out 1; have t2 := cell_in HT8.out 2 _ rfl; have t2f := free_in HT8.out 2; have t3 := cell_in HT8.out 3 _ rfl; have t3f := free_in HT8.out 3; have r0 := cell_in HR8.out 0 _ rfl; have r0f := free_in HR8.out 0; have r1 := cell_in HR8.out 1 _ rfl; have r1f := free_in HR8.out 1; have r2 := cell_in HR8.out 2 _ rfl; have r2f := free_in HR8.out 2; have r3 := cell_in HR8.out 3 _ rfl; have r3f := free_in HR8.out 3; clear hb8))
  have HL8 : Hid (w3.heap.size ≤ w8.heap.size) := hid (by have := HB34.out; have := HK5.out.size; have := HSS6.out; have := HSS7.out; have := HSS8.out; omega)
  have HC4S : Hid (∀ k, (Value.slice sa C.tabs.length sc).ownBlock = some k → k < w8.heap.size) := hid (fun k e => (HC8.out.own1 k e).2)
  have CPT := hid (cpTab_any (HT.out.old HB8.out) HTS.out)
  go_upto_region 9 with (first | (go_at_call 102; refine CPT.out.mono ?_; rintro en w9 ⟨vs9, rfl, hb9, hk9⟩; obtain ⟨ta9, tc9, tb9, td9, rfl⟩ := tab_form hk9; have HB89 := hid hb9.size; have HK9 := hid hk9; have HSS9 := hid hb9.size; have HB9 := hid (below_step HB8.out hb9); have HZ9 := hid ((hb9.block _ (lt_of_block HZ8.out)).trans HZ8.out); have HT9 := hid ((hb9.block _ (lt_of_block HT8.out)).trans HT8.out); have HR9 := hid ((hb9.block _ (lt_of_block HR8.out)).trans HR8.out); have HC9 := hid (HC8.out.keep (Keep.of_below (X := fun _ => False) hb9) (fun _ e => e.elim)); clear z0 z1 z2 z3 t0 t1 t2 t3 r0 r1 r2 r3 z0f z1f z2f z3f t0f t1f t2f t3f r0f r1f r2f r3f; have z0 := cell_in HZ9.out 0 _ rfl; have z0f := free_in HZ9.out 0; have z1 := cell_in HZ9.out 1 _ rfl; have z1f := free_in HZ9.out 1; have z2 := cell_in HZ9.out 2 _ rfl; have z2f := free_in HZ9.out 2; have z3 := cell_in HZ9.out 3 _ rfl; have z3f := free_in HZ9.out 3; have t0 := cell_in HT9.out 0 _ rfl; have t0f := free_in HT9.out 0; have t1 := cell_in HT9.out 1 _ rfl; have t1f := free_in HT9.out 1; have t2 := cell_in HT9.out 2 _ rfl; have t2f := free_in HT9.out 2; have t3 := cell_in HT9.out 3 _ rfl; have t3f := free_in HT9.out 3; have r0 := cell_in HR9.out 0 _ rfl; have r0f := free_in HR9.out 0; have r1 := cell_in HR9.out 1 _ rfl; have r1f := free_in HR9.out 1; have r2 := cell_in HR9.out 2 _ rfl; have r2f := free_in HR9.out 2; have r3 := cell_in HR9.out 3 _ rfl; have r3f := free_in HR9.out 3; clear hb9; clear hk9))
  obtain ⟨pz, pk⟩ := put4 HT9.out (.int .i64 t.id) (.string ⟨t.name.toArray⟩) (.slice ta9 t.cols.length tc9) (.slice tb9 t.key.length td9)
  generalize (((w9.setCell ⟨w.heap.size + 1, 0, none⟩ (.int .i64 t.id)).setCell ⟨w.heap.size + 1, 1, none⟩ (.string ⟨t.name.toArray⟩)).setCell ⟨w.heap.size + 1, 2, none⟩ (.slice ta9 t.cols.length tc9)).setCell ⟨w.heap.size + 1, 3, none⟩ (.slice tb9 t.key.length td9) = wA at *
  clear z0 z1 z2 z3 t0 t1 t2 t3 r0 r1 r2 r3 z0f z1f z2f z3f t0f t1f t2f t3f r0f r1f r2f r3f
  have HTA := hid pz
  have HKA := hid pk
  clear pz pk
  have HZA := hid ((HKA.out.block _ (lt_of_block HZ9.out) (fun e => by have e9 : w.heap.size = w.heap.size + 1 := e; omega)).trans HZ9.out)
  have z1 := cell_in HZA.out 1 _ rfl
  have t0 := cell_in HTA.out 0 _ rfl
  have t0f := free_in HTA.out 0
  go_upto_region 10 with fail
  have HTB := hid (put_in HTA.out 0 (.int .i64 C.nxt))
  have HKB : Hid (Keep (fun k => k = w.heap.size + 1) w9 (wA.setCell ⟨w.heap.size + 1, 0, none⟩ (.int .i64 C.nxt))) := hid (HKA.out.trans (Keep.set _ _ _ rfl))
  generalize wA.setCell ⟨w.heap.size + 1, 0, none⟩ (.int .i64 C.nxt) = wB at *
  clear z1 t0 t0f
  have HZB := hid ((HKB.out.block _ (lt_of_block HZ9.out) (fun e => by have e9 : w.heap.size = w.heap.size + 1 := e; omega)).trans HZ9.out)
  have HRB := hid ((HKB.out.block _ (lt_of_block HR9.out) (fun e => by have e9 : w.heap.size + 2 = w.heap.size + 1 := e; omega)).trans HR9.out)
  have HBB : Hid (Below w.heap.size w wB) := hid (HB9.out.trans (HKB.out.below HB9.out.size (fun k e => by have e9 : k = w.heap.size + 1 := e; omega)))
  have z2 := cell_in HZB.out 2 _ rfl
  have t0 := cell_in HTB.out 0 _ rfl
  have t1 := cell_in HTB.out 1 _ rfl
  have t2 := cell_in HTB.out 2 _ rfl
  have t3 := cell_in HTB.out 3 _ rfl
  have HAC : Hid (Below wB.heap.size wB (wB.alloc (.cells #[.int .i64 C.nxt, .string ⟨t.name.toArray⟩, .slice ta9 t.cols.length tc9, .slice tb9 t.key.length td9] 33))) := hid ((Below.refl _ _).alloc (Nat.le_refl _) _)
  have HRA := hid (heap_alloc_new wB (.cells #[.int .i64 C.nxt, .string ⟨t.name.toArray⟩, .slice ta9 t.cols.length tc9, .slice tb9 t.key.length td9] 33))
  have HKC : Hid (Keep (fun k => k = w.heap.size + 1) w9 (wB.alloc (.cells #[.int .i64 C.nxt, .string ⟨t.name.toArray⟩, .slice ta9 t.cols.length tc9, .slice tb9 t.key.length td9] 33))) := hid (HKB.out.trans (Keep.of_below HAC.out))
  have HCC := hid (HC9.out.keep HKC.out (fun k e => by have e9 : k = w.heap.size + 1 := e; have := HSZ.out; omega))
  have HKT := hid ((HK9.out.keep HKC.out (fun k e e9 => by have e8 : k = w.heap.size + 1 := e9; have := e.1; have := HB8.out.size; have := HSZ.out; have := HB34.out; have := HB5.out.size; have := HK5.out.size; have := HL8.out; omega)))
  obtain ⟨vx, vy, e9, ho1, ho2, ho3⟩ := HCC.out
  simp only [List.cons.injEq, and_true, true_and] at e9
  obtain ⟨rfl, rfl⟩ := e9
  have HO1 := hid ho1
  have HO2 := hid ho2
  have HO3 := hid ho3
  clear ho1 ho2 ho3
  have HBC := hid (below_step HBB.out HAC.out)
  have HZC := hid ((HAC.out.block _ (lt_of_block HZB.out)).trans HZB.out)
  have HRC := hid ((HAC.out.block _ (lt_of_block HRB.out)).trans HRB.out)
  have HS9 : Hid (w9.heap.size ≤ wB.heap.size) := hid HKB.out.size
  go_upto_region 11 with (first
    | (at_builtin; refine wp_lapp2 (by rfl) _ _ 22 rfl w3.heap.size 4 72 33 Try.underlying22 (.agg #[.int .i64 0, .string ⟨#[]⟩, .slice none 0 0, .slice none 0 0]) (by kernel_rfl) (by simp [Value.cells]) (by decide) _ _ rfl HO1.out wB.heap.size [.int .i64 C.nxt, .string ⟨t.name.toArray⟩, .slice ta9 t.cols.length tc9, .slice tb9 t.key.length td9] rfl (fun j q hj => cell_in HRA.out j q (by simpa using hj)) rfl (fun q hq9 => by simp only [List.mem_cons, List.not_mem_nil, or_false] at hq9; rcases hq9 with rfl | rfl | rfl | rfl <;> rfl) (by unfold maxLen; omega) (by omega) (by have := HB34.out; have := HK5.out.size; have := HL8.out; have := HB89.out; have := HS9.out; have := HAC.out.size; omega) ⟨C.nxt, t.name, t.cols, t.key⟩ (fun va vc wD p1 p2 p3 => ?_)
       have hl1 := HO1.out.lt
       have hl2 := HO2.out.lt
       have HKD := hid (Keep.of_grown (X := fun q => (Value.slice sa C.tabs.length sc).ownBlock = some q) p2 (fun k hk9 => hk9))
       have HSD := hid p2.size
       have hTN : TabN (fun k => w3.heap.size ≤ k ∧ k < wD.heap.size) wD [.int .i64 C.nxt, .string ⟨t.name.toArray⟩, .slice ta9 t.cols.length tc9, .slice tb9 t.key.length td9] ⟨C.nxt, t.name, t.cols, t.key⟩ := by
         obtain ⟨x8, y8, e8, c8, k8, o8, u8⟩ := HKT.out
         simp only [List.cons.injEq, and_true, true_and] at e8
         obtain ⟨rfl, rfl⟩ := e8
         have hA : ∀ k, New w8 w9 k → w3.heap.size ≤ k ∧ k < wD.heap.size := fun k e => ⟨by have := e.1; have := HL8.out; omega, by have := e.2; have := HS9.out; have := HAC.out.size; have := HSD.out; omega⟩
         have hX : ∀ k, New w8 w9 k → ¬ (Value.slice sa C.tabs.length sc).ownBlock = some k := fun k e e9 => by have := (HC4S.out k e9); have := e.1; have := HL8.out; omega
         exact ⟨_, _, rfl, (c8.keep HKD.out hX).mono hA, (k8.keep HKD.out hX).mono hA, rfl, rfl⟩
       have HOD := hid (p1 (TabN (fun k => w3.heap.size ≤ k ∧ k < wD.heap.size)) ⟨C.nxt, t.name, t.cols, t.key⟩ (fun q c h => (h.keep HKD.out (fun k e e9 => e.1.2.2 e9)).mono (fun k e => ⟨e.1.1, by have := e.1.2.1; have := HSD.out; omega⟩)) hTN)
       have HXD := hid (HO2.out.mono (R' := IdxN (fun k => w3.heap.size ≤ k ∧ k < wD.heap.size)) HKD.out (fun k e e9 => HO3.out k e9 e) (fun r a h => (h.keep HKD.out (fun k e e9 => e.2 e9)).mono (fun k e => ⟨e.1.1, by have := e.1.2.1; have := HSD.out; omega⟩)))
       have HBD : Hid (Below w.heap.size w wD) := hid (HBC.out.trans (HKD.out.below HBC.out.size (fun k e => by have e9 : (Value.slice sa C.tabs.length sc).ownBlock = some k := e; have := (hl1 k e9).1; have := HSZ.out; omega)))
       have HZD := hid ((HKD.out.block _ (lt_of_block HZC.out) (fun e => by have e9 : (Value.slice sa C.tabs.length sc).ownBlock = some (w.heap.size) := e; have := (hl1 _ e9).1; have := HSZ.out; omega)).trans HZC.out)
       have HRD := hid ((HKD.out.block _ (lt_of_block HRC.out) (fun e => by have e9 : (Value.slice sa C.tabs.length sc).ownBlock = some (w.heap.size + 2) := e; have := (hl1 _ e9).1; have := HSZ.out; omega)).trans HRC.out)
       clear p1 p2 p3 hl1 hl2 hTN z2 t0 t1 t2 t3
       have z2 := cell_in HZD.out 2 _ rfl
       have z2f := free_in HZD.out 2))
  have HZE := hid (put_in HZD.out 2 (.slice va (C.tabs.length + 1) vc))
  have HKE : Hid (Keep (fun k => k = w.heap.size) wD (wD.setCell ⟨w.heap.size, 2, none⟩ (.slice va (C.tabs.length + 1) vc))) := hid (Keep.set _ _ _ rfl)
  generalize wD.setCell ⟨w.heap.size, 2, none⟩ (.slice va (C.tabs.length + 1) vc) = wE at *
  clear z2 z2f
  have z1 := cell_in HZE.out 1 _ rfl
  have z1f := free_in HZE.out 1
  have hnw : wrap64 (C.nxt + 1) = C.nxt + 1 := by have := HN.out; unfold wrap64; omega
  have hvw : wrap64 (C.ver + 1) = C.ver + 1 := by have := HV.out; unfold wrap64; omega
  go_upto_region 12 with fail
  have HZF := hid (put_in HZE.out 1 (.int .i64 (C.nxt + 1)))
  have HKF : Hid (Keep (fun k => k = w.heap.size) wD (wE.setCell ⟨w.heap.size, 1, none⟩ (.int .i64 (C.nxt + 1)))) := hid (HKE.out.trans (Keep.set _ _ _ rfl))
  generalize wE.setCell ⟨w.heap.size, 1, none⟩ (.int .i64 (C.nxt + 1)) = wF at *
  clear z1 z1f hnw
  have z0 := cell_in HZF.out 0 _ rfl
  have z0f := free_in HZF.out 0
  go_upto_region 13 with fail
  have HZG := hid (put_in HZF.out 0 (.int .i64 (C.ver + 1)))
  have HKG : Hid (Keep (fun k => k = w.heap.size) wD (wF.setCell ⟨w.heap.size, 0, none⟩ (.int .i64 (C.ver + 1)))) := hid (HKF.out.trans (Keep.set _ _ _ rfl))
  generalize wF.setCell ⟨w.heap.size, 0, none⟩ (.int .i64 (C.ver + 1)) = wG at *
  clear z0 z0f hvw
  have HRG := hid ((HKG.out.block _ (lt_of_block HRD.out) (fun e => by have e9 : w.heap.size + 2 = w.heap.size := e; omega)).trans HRD.out)
  have z0 := cell_in HZG.out 0 _ rfl
  have r0 := cell_in HRG.out 0 _ rfl
  have r0f := free_in HRG.out 0
  have z1 := cell_in HZG.out 1 _ rfl
  have r1 := cell_in HRG.out 1 _ rfl
  have r1f := free_in HRG.out 1
  have z2 := cell_in HZG.out 2 _ rfl
  have r2 := cell_in HRG.out 2 _ rfl
  have r2f := free_in HRG.out 2
  have z3 := cell_in HZG.out 3 _ rfl
  have r3 := cell_in HRG.out 3 _ rfl
  have r3f := free_in HRG.out 3
  go_wp2_with fail
  obtain ⟨p1, p2⟩ := put4 HRG.out (.int .i64 (C.ver + 1)) (.int .i64 (C.nxt + 1)) (.slice va (C.tabs.length + 1) vc) (.slice ka C.idxs.length kc)
  generalize (((wG.setCell ⟨w.heap.size + 2, 0, none⟩ (.int .i64 (C.ver + 1))).setCell ⟨w.heap.size + 2, 1, none⟩ (.int .i64 (C.nxt + 1))).setCell ⟨w.heap.size + 2, 2, none⟩ (.slice va (C.tabs.length + 1) vc)).setCell ⟨w.heap.size + 2, 3, none⟩ (.slice ka C.idxs.length kc) = s4 at *
  refine bodyPost_ret (results_cell2 rfl _ _ (w.heap.size + 2) 25 _ (0, 0) _ rfl p1 Try.underlying25 rfl (by kernel_rfl)) rfl ?_
  rw [HD.out]
  have e1 := HSZ.out
  have e2 := HBD.out.size
  have e3 := p2.size
  have e4 := HKG.out.size
  have hk : Keep (fun k => k = w.heap.size ∨ k = w.heap.size + 2) wD s4 := (HKG.out.mono (fun k _ e => Or.inl e)).trans (p2.mono (fun k _ e => Or.inr e))
  have hb9 : Below w.heap.size w s4 := HBD.out.trans (hk.below (by omega) (fun k e => by rcases e with e | e <;> omega))
  have hno : ∀ k, w3.heap.size ≤ k → ¬ (k = w.heap.size ∨ k = w.heap.size + 2) := fun k e e9 => by rcases e9 with e9 | e9 <;> omega
  have hl1 := HOD.out.lt
  have hl2 := HXD.out.lt
  have q1 := ((HOD.out.lst (fun k => w3.heap.size ≤ k ∧ k < wD.heap.size) (fun k e => hl1 k e)).keep hk (fun k e => hno k e.1) (fun r a h => h.keep hk (fun k e => hno k e.1))).mono (R' := TabN (New w s4)) (N' := New w s4) (fun k e => ⟨by omega, by omega⟩) (fun r a h => h.mono (fun k e => ⟨by have := e.1; omega, by have := e.2; omega⟩))
  have q2 := ((HXD.out.lst (fun k => w3.heap.size ≤ k ∧ k < wD.heap.size) (fun k e => hl2 k e)).keep hk (fun k e => hno k e.1) (fun r a h => h.keep hk (fun k e => hno k e.1))).mono (R' := IdxN (New w s4)) (N' := New w s4) (fun k e => ⟨by omega, by omega⟩) (fun r a h => h.mono (fun k e => ⟨by have := e.1; omega, by have := e.2; omega⟩))
  have hc9 : CatN (New w s4) s4 [.int .i64 (C.ver + 1), .int .i64 (C.nxt + 1), .slice va (C.tabs.length + 1) vc, .slice ka C.idxs.length kc] (addTab C t) := ⟨_, _, rfl, q1, q2, rfl, rfl⟩
  exact ⟨_, rfl, hb9, hc9⟩
end Go.Proofs.Ytafcbelkhhjcoaa
