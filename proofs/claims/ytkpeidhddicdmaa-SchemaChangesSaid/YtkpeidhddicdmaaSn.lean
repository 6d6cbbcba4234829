/-
  LAYER 12, THE DOCUMENT's: AddTable.
-/
import Derived.Test.YtkpeidhddicdmaaSm
set_option linter.unusedVariables false
set_option linter.unusedSimpArgs false
set_option maxRecDepth 100000
namespace Go.Proofs.Ytkpeidhddicdmaa
open Go.RowKit Go.Deep

def addTab (C : Cat) (t : Tab) : Cat := { C with ver := C.ver + 1, nxt := C.nxt + 1, tabs := C.tabs ++ [{ t with id := C.nxt }] }
def addTableM (C : Cat) (t : Tab) : Cat × Int :=
  if tabB t = false then (C, 9) else if (C.tabs.find? fun q => decide (q.name = t.name)).isSome = true then (C, 6) else if 6 ≤ C.tabs.length ∨ 1073741824 ≤ C.nxt then (C, 4) else (addTab C t, 0)

set_option maxHeartbeats 8000000 in
theorem rAddTable_any {N Nt : Nat → Prop} {w : World} {cs ts : List Value} {C : Cat} {t : Tab} (h : CatN N w cs C) (hN : ∀ k, N k → k < w.heap.size) (hS : C.S) (hv : -9223372036854775808 ≤ C.ver ∧ C.ver < 9223372036854775807) (hn : -9223372036854775808 ≤ C.nxt)
    (ht : TabN Nt w ts t) (hNt : ∀ k, Nt k → k < w.heap.size) (htW : t.W) (htS : t.cols.length ≤ 100 ∧ t.key.length ≤ 100) :
    Calls Try.prog 32 #[.agg cs.toArray, .agg ts.toArray] w (ChP N w (addTableM C t)) := by
  have HH := hid h
  have HT := hid ht
  obtain ⟨ao, c, ko, d, rfl⟩ := cat_form h
  obtain ⟨ta, tc, tb, td, rfl⟩ := tab_form ht
  have htl : C.tabs.length ≤ 100 := hS.1
  have HNK := hid hN
  have HNT := hid hNt
  have HS := hid hS
  have HV := hid hv
  have HN := hid hn
  have HW := hid htW
  have HTS := hid htS
  clear h ht hN hNt hS hv hn htW htS
  go_enter Try.func32, Try.ntmps32
  go_upto_region 1 with fail
  have hb := (Below.refl w.heap.size w).alloc (Nat.le_refl _) (.cells #[.int .i64 C.ver, .int .i64 C.nxt, .slice ao C.tabs.length c, .slice ko C.idxs.length d] 25)
  have hz := heap_alloc_new w (.cells #[.int .i64 C.ver, .int .i64 C.nxt, .slice ao C.tabs.length c, .slice ko C.idxs.length d] 25)
  have hsz : (w.alloc (.cells #[.int .i64 C.ver, .int .i64 C.nxt, .slice ao C.tabs.length c, .slice ko C.idxs.length d] 25)).heap.size = w.heap.size + 1 := by simp
  generalize w.alloc (.cells #[.int .i64 C.ver, .int .i64 C.nxt, .slice ao C.tabs.length c, .slice ko C.idxs.length d] 25) = w1 at *
  have hz2 := heap_alloc_new w1 (.cells #[.int .i64 t.id, .string ⟨t.name.toArray⟩, .slice ta t.cols.length tc, .slice tb t.key.length td] 33)
  have hb2 := hb.alloc hb.size (.cells #[.int .i64 t.id, .string ⟨t.name.toArray⟩, .slice ta t.cols.length tc, .slice tb t.key.length td] 33)
  have hzk := (((Below.refl _ w1).alloc (Nat.le_refl _) (.cells #[.int .i64 t.id, .string ⟨t.name.toArray⟩, .slice ta t.cols.length tc, .slice tb t.key.length td] 33)).block _ (lt_of_block hz)).trans hz
  have hsz2 : (w1.alloc (.cells #[.int .i64 t.id, .string ⟨t.name.toArray⟩, .slice ta t.cols.length tc, .slice tb t.key.length td] 33)).heap.size = w.heap.size + 2 := by simp [hsz]
  rw [hsz] at hz2
  generalize w1.alloc (.cells #[.int .i64 t.id, .string ⟨t.name.toArray⟩, .slice ta t.cols.length tc, .slice tb t.key.length td] 33) = w2 at *
  have hz3 := heap_alloc_new w2 (.cells #[.int .i64 0, .int .i64 0, .slice none 0 0, .slice none 0 0] 25)
  have hb3 := hb2.alloc hb2.size (.cells #[.int .i64 0, .int .i64 0, .slice none 0 0, .slice none 0 0] 25)
  have hzk2 := (((Below.refl _ w2).alloc (Nat.le_refl _) (.cells #[.int .i64 0, .int .i64 0, .slice none 0 0, .slice none 0 0] 25)).block _ (lt_of_block hzk)).trans hzk
  have hzt2 := (((Below.refl _ w2).alloc (Nat.le_refl _) (.cells #[.int .i64 0, .int .i64 0, .slice none 0 0, .slice none 0 0] 25)).block _ (lt_of_block hz2)).trans hz2
  have hsz3 : (w2.alloc (.cells #[.int .i64 0, .int .i64 0, .slice none 0 0, .slice none 0 0] 25)).heap.size = w.heap.size + 3 := by simp [hsz2]
  rw [hsz2] at hz3
  generalize w2.alloc (.cells #[.int .i64 0, .int .i64 0, .slice none 0 0, .slice none 0 0] 25) = w3 at *
  have HB := hid hb3
  have HZ := hid hzk2
  have HZT := hid hzt2
  have HZ2 := hid hz3
  have HSZ := hid hsz3
  clear hz hz2 hz3 hb hb2 hb3 hzk hzk2 hzt2 hsz hsz2 hsz3
  have z0 := cell_in HZ.out 0 _ rfl
  have z1 := cell_in HZ.out 1 _ rfl
  have z2 := cell_in HZ.out 2 _ rfl
  have z3 := cell_in HZ.out 3 _ rfl
  have t0 := cell_in HZT.out 0 _ rfl
  have t1 := cell_in HZT.out 1 _ rfl
  have t2 := cell_in HZT.out 2 _ rfl
  have t3 := cell_in HZT.out 3 _ rfl
  have CT := hid (rTable_any (HH.out.old HB.out) t.name)
  have CR := hid (fun W (hW : Below w3.heap.size w3 W) => rTableRight_any (HT.out.old (below_step HB.out hW)) HW.out)
  go_upto_region 2 with (first | (go_at_call 16; refine CT.out.mono ?_; rintro en w4 ⟨vs, rfl, hb4, hi4⟩; obtain ⟨xa, xc, ya, yc, rfl⟩ := tab_form hi4; have HB4 := hid hb4; clear hb4 hi4))
  generalize hsm : (C.tabs.find? fun q => decide (q.name = t.name)).isSome = tw at *
  generalize (C.tabs.find? fun q => decide (q.name = t.name)).getD tab0 = x at *
  have hb5 := (Below.refl w4.heap.size w4).alloc (Nat.le_refl _) (.cells #[.int .i64 x.id, .string ⟨x.name.toArray⟩, .slice xa x.cols.length xc, .slice ya x.key.length yc] 33)
  generalize w4.alloc (.cells #[.int .i64 x.id, .string ⟨x.name.toArray⟩, .slice xa x.cols.length xc, .slice ya x.key.length yc] 33) = w5 at *
  have HB35 := hid (below_step HB4.out hb5)
  clear hb5 z0 z1 z2 z3 t0 t1 t2 t3
  have HT5 := hid ((HB35.out.block _ (lt_of_block HZT.out)).trans HZT.out)
  have t0 := cell_in HT5.out 0 _ rfl
  have t1 := cell_in HT5.out 1 _ rfl
  have t2 := cell_in HT5.out 2 _ rfl
  have t3 := cell_in HT5.out 3 _ rfl
  generalize hq : tabB t = q at *
  go_upto_if 16 with (first | (go_at_call 48; refine (CR.out _ HB35.out).mono ?_; rintro en w6 ⟨rfl, hb6⟩; have HB36 := hid (below_step HB35.out hb6); clear hb6))
  clear t0 t1 t2 t3
  have HBA := hid (below_step HB.out HB36.out)
  have HZ6 := hid ((HB36.out.block _ (lt_of_block HZ.out)).trans HZ.out)
  have HT6 := hid ((HB36.out.block _ (lt_of_block HZT.out)).trans HZT.out)
  have HR6 := hid ((HB36.out.block _ (lt_of_block HZ2.out)).trans HZ2.out)
  have z0 := cell_in HZ6.out 0 _ rfl
  have z1 := cell_in HZ6.out 1 _ rfl
  have z2 := cell_in HZ6.out 2 _ rfl
  have z3 := cell_in HZ6.out 3 _ rfl
  have r0 := cell_in HR6.out 0 _ rfl
  have r1 := cell_in HR6.out 1 _ rfl
  have r2 := cell_in HR6.out 2 _ rfl
  have r3 := cell_in HR6.out 3 _ rfl
  have r0f := free_in HR6.out 0
  have r1f := free_in HR6.out 1
  have r2f := free_in HR6.out 2
  have r3f := free_in HR6.out 3
  cases q with
  | false =>
    have HD : Hid (addTableM C t = (C, 9)) := hid (by unfold addTableM; rw [if_pos hq])
    clear hq hsm
    go_wp2_with fail
    obtain ⟨p1, p2⟩ := put4 HR6.out (.int .i64 C.ver) (.int .i64 C.nxt) (.slice ao C.tabs.length c) (.slice ko C.idxs.length d)
    generalize (((w6.setCell ⟨w.heap.size + 2, 0, none⟩ (.int .i64 C.ver)).setCell ⟨w.heap.size + 2, 1, none⟩ (.int .i64 C.nxt)).setCell ⟨w.heap.size + 2, 2, none⟩ (.slice ao C.tabs.length c)).setCell ⟨w.heap.size + 2, 3, none⟩ (.slice ko C.idxs.length d) = s4 at *
    refine bodyPost_ret (results_cell2 rfl _ _ (w.heap.size + 2) 25 _ (0, 0) _ rfl p1 Try.underlying25 rfl (by kernel_rfl)) rfl ?_
    have hb9 : Below w.heap.size w s4 := HBA.out.trans (p2.below (by have := HBA.out.size; omega) (fun k e => by have e8 : k = w.heap.size + 2 := e; omega))
    rw [HD.out]
    exact ⟨_, rfl, hb9, (HH.out.old hb9).mono (fun k e => Or.inl e)⟩
  | true =>
  have hq9 : ¬ tabB t = false := by rw [hq]; decide
  cases tw with
  | true =>
    have HD : Hid (addTableM C t = (C, 6)) := hid (by unfold addTableM; rw [if_neg hq9, if_pos hsm])
    clear hq hsm hq9
    go_wp2_with fail
    obtain ⟨p1, p2⟩ := put4 HR6.out (.int .i64 C.ver) (.int .i64 C.nxt) (.slice ao C.tabs.length c) (.slice ko C.idxs.length d)
    generalize (((w6.setCell ⟨w.heap.size + 2, 0, none⟩ (.int .i64 C.ver)).setCell ⟨w.heap.size + 2, 1, none⟩ (.int .i64 C.nxt)).setCell ⟨w.heap.size + 2, 2, none⟩ (.slice ao C.tabs.length c)).setCell ⟨w.heap.size + 2, 3, none⟩ (.slice ko C.idxs.length d) = s4 at *
    refine bodyPost_ret (results_cell2 rfl _ _ (w.heap.size + 2) 25 _ (0, 0) _ rfl p1 Try.underlying25 rfl (by kernel_rfl)) rfl ?_
    have hb9 : Below w.heap.size w s4 := HBA.out.trans (p2.below (by have := HBA.out.size; omega) (fun k e => by have e8 : k = w.heap.size + 2 := e; omega))
    rw [HD.out]
    exact ⟨_, rfl, hb9, (HH.out.old hb9).mono (fun k e => Or.inl e)⟩
  | false =>
  have hs9 : ¬ (C.tabs.find? fun q => decide (q.name = t.name)).isSome = true := by rw [hsm]; decide
  by_cases h6 : 6 ≤ C.tabs.length
  case pos =>
    have HD : Hid (addTableM C t = (C, 4)) := hid (by unfold addTableM; rw [if_neg hq9, if_neg hs9, if_pos (Or.inl h6)])
    have h6i : (6 : Int) ≤ (C.tabs.length : Int) := by omega
    clear hq hsm hq9 hs9
    go_wp2_with fail
    obtain ⟨p1, p2⟩ := put4 HR6.out (.int .i64 C.ver) (.int .i64 C.nxt) (.slice ao C.tabs.length c) (.slice ko C.idxs.length d)
    generalize (((w6.setCell ⟨w.heap.size + 2, 0, none⟩ (.int .i64 C.ver)).setCell ⟨w.heap.size + 2, 1, none⟩ (.int .i64 C.nxt)).setCell ⟨w.heap.size + 2, 2, none⟩ (.slice ao C.tabs.length c)).setCell ⟨w.heap.size + 2, 3, none⟩ (.slice ko C.idxs.length d) = s4 at *
    refine bodyPost_ret (results_cell2 rfl _ _ (w.heap.size + 2) 25 _ (0, 0) _ rfl p1 Try.underlying25 rfl (by kernel_rfl)) rfl ?_
    have hb9 : Below w.heap.size w s4 := HBA.out.trans (p2.below (by have := HBA.out.size; omega) (fun k e => by have e8 : k = w.heap.size + 2 := e; omega))
    rw [HD.out]
    exact ⟨_, rfl, hb9, (HH.out.old hb9).mono (fun k e => Or.inl e)⟩
  have h6i : ¬ (6 : Int) ≤ (C.tabs.length : Int) := by omega
  by_cases hx : 1073741824 ≤ C.nxt
  case pos =>
    have HD : Hid (addTableM C t = (C, 4)) := hid (by unfold addTableM; rw [if_neg hq9, if_neg hs9, if_pos (Or.inr hx)])
    clear hq hsm hq9 hs9
    go_wp2_with fail
    obtain ⟨p1, p2⟩ := put4 HR6.out (.int .i64 C.ver) (.int .i64 C.nxt) (.slice ao C.tabs.length c) (.slice ko C.idxs.length d)
    generalize (((w6.setCell ⟨w.heap.size + 2, 0, none⟩ (.int .i64 C.ver)).setCell ⟨w.heap.size + 2, 1, none⟩ (.int .i64 C.nxt)).setCell ⟨w.heap.size + 2, 2, none⟩ (.slice ao C.tabs.length c)).setCell ⟨w.heap.size + 2, 3, none⟩ (.slice ko C.idxs.length d) = s4 at *
    refine bodyPost_ret (results_cell2 rfl _ _ (w.heap.size + 2) 25 _ (0, 0) _ rfl p1 Try.underlying25 rfl (by kernel_rfl)) rfl ?_
    have hb9 : Below w.heap.size w s4 := HBA.out.trans (p2.below (by have := HBA.out.size; omega) (fun k e => by have e8 : k = w.heap.size + 2 := e; omega))
    rw [HD.out]
    exact ⟨_, rfl, hb9, (HH.out.old hb9).mono (fun k e => Or.inl e)⟩
  have HD : Hid (addTableM C t = (addTab C t, 0)) := hid (by unfold addTableM; rw [if_neg hq9, if_neg hs9, if_neg (by omega)])
  clear hq hsm hq9 hs9
  have CC := hid (rCopy_any (HH.out.old HBA.out) (fun k hk => Nat.lt_of_lt_of_le (HNK.out k hk) HBA.out.size) HS.out)
  go_upto_region 9 with (first | (go_at_call 11; refine CC.out.mono ?_; rintro en w7 ⟨vs, rfl, hb7, hc7⟩; obtain ⟨vx, vy, rfl, ho1, ho2, ho3⟩ := hc7; obtain ⟨sa, sc, rfl⟩ := own_form ho1; obtain ⟨ka, kc, rfl⟩ := own_form ho2; have HB7 := hid hb7; have HO1 := hid ho1; have HO2 := hid ho2; have HO3 := hid ho3; clear hb7 ho1 ho2 ho3))
  have hb8 := (Below.refl w7.heap.size w7).alloc (Nat.le_refl _) (.cells #[.int .i64 C.ver, .int .i64 C.nxt, .slice sa C.tabs.length sc, .slice ka C.idxs.length kc] 25)
  have hz8 := heap_alloc_new w7 (.cells #[.int .i64 C.ver, .int .i64 C.nxt, .slice sa C.tabs.length sc, .slice ka C.idxs.length kc] 25)
  have hs8 : (w7.alloc (.cells #[.int .i64 C.ver, .int .i64 C.nxt, .slice sa C.tabs.length sc, .slice ka C.idxs.length kc] 25)).heap.size = w7.heap.size + 1 := by simp
  generalize w7.alloc (.cells #[.int .i64 C.ver, .int .i64 C.nxt, .slice sa C.tabs.length sc, .slice ka C.idxs.length kc] 25) = w8 at *
  have HB78 := hid hb8
  have HS8 := hid hs8
  have HN8 := hid hz8
  have HB68 := hid (below_step HB7.out hb8)
  have HB38 := hid (below_step HB36.out HB68.out)
  have HBA8 := hid (below_step HBA.out HB68.out)
  have HZ8 := hid ((HB68.out.block _ (lt_of_block HZ6.out)).trans HZ6.out)
  have HT8 := hid ((HB68.out.block _ (lt_of_block HT6.out)).trans HT6.out)
  have HR8 := hid ((HB68.out.block _ (lt_of_block HR6.out)).trans HR6.out)
  have HL6 : Hid (w.heap.size + 3 ≤ w6.heap.size) := hid (by have := HB36.out.size; have := HSZ.out; omega)
  have HL7 : Hid (w6.heap.size ≤ w7.heap.size) := hid HB7.out.size
  clear hb8 hz8 hs8 z0 z1 z2 z3 r0 r1 r2 r3 r0f r1f r2f r3f
  have z1 := cell_in HZ8.out 1 _ rfl
  have t0 := cell_in HT8.out 0 _ rfl
  have t0f := free_in HT8.out 0
  go_upto_region 10 with fail
  have HT9 : Hid ((w8.setCell ⟨w.heap.size + 1, 0, none⟩ (.int .i64 C.nxt)).heap[w.heap.size + 1]? = some (.cells #[.int .i64 C.nxt, .string ⟨t.name.toArray⟩, .slice ta t.cols.length tc, .slice tb t.key.length td] 33 (0, 0))) := hid (put_in HT8.out 0 (.int .i64 C.nxt))
  have HK9 : Hid (Keep (fun k => k = w.heap.size + 1) w8 (w8.setCell ⟨w.heap.size + 1, 0, none⟩ (.int .i64 C.nxt))) := hid (Keep.set _ _ _ rfl)
  generalize w8.setCell ⟨w.heap.size + 1, 0, none⟩ (.int .i64 C.nxt) = w9 at *
  clear z1 t0 t0f
  have HN9 := hid ((HK9.out.block _ (lt_of_block HN8.out) (fun e => by have e9 : w7.heap.size = w.heap.size + 1 := e; have := HL6.out; have := HL7.out; omega)).trans HN8.out)
  have HR9 := hid ((HK9.out.block _ (lt_of_block HR8.out) (fun e => by have e9 : w.heap.size + 2 = w.heap.size + 1 := e; omega)).trans HR8.out)
  have HBA9 : Hid (Below w.heap.size w w9) := hid (HBA8.out.trans (HK9.out.below (by have := HBA8.out.size; omega) (fun k e => by have e9 : k = w.heap.size + 1 := e; omega)))
  have n2 := cell_in HN9.out 2 _ rfl
  have t0 := cell_in HT9.out 0 _ rfl
  have t1 := cell_in HT9.out 1 _ rfl
  have t2 := cell_in HT9.out 2 _ rfl
  have t3 := cell_in HT9.out 3 _ rfl
  have HA : Hid (Below w9.heap.size w9 (w9.alloc (.cells #[.int .i64 C.nxt, .string ⟨t.name.toArray⟩, .slice ta t.cols.length tc, .slice tb t.key.length td] 33))) := hid ((Below.refl _ _).alloc (Nat.le_refl _) _)
  have HRA := hid (heap_alloc_new w9 (.cells #[.int .i64 C.nxt, .string ⟨t.name.toArray⟩, .slice ta t.cols.length tc, .slice tb t.key.length td] 33))
  have HK79 : Hid (Keep (fun k => k = w.heap.size + 1) w7 w9) := hid ((Keep.of_below HB78.out).trans HK9.out)
  have HKA : Hid (Keep (fun k => k = w.heap.size + 1) w7 (w9.alloc (.cells #[.int .i64 C.nxt, .string ⟨t.name.toArray⟩, .slice ta t.cols.length tc, .slice tb t.key.length td] 33))) := hid (HK79.out.trans (Keep.of_below HA.out))
  have HNE : Hid (∀ k, w6.heap.size ≤ k → ¬ k = w.heap.size + 1) := hid (fun k h e => by have := HL6.out; omega)
  have HO5 := hid (HO1.out.mono HKA.out (fun k e => HNE.out k (HO1.out.lt k e).1) (fun r a h => h.keep HKA.out (fun k e => HNE.out k e.1.1)))
  have HX5 := hid (HO2.out.mono HKA.out (fun k e => HNE.out k (HO2.out.lt k e).1) (fun r a h => h.keep HKA.out (fun k e => HNE.out k e.1.1)))
  have HTC : Hid (ClsN Nt (w9.alloc (.cells #[.int .i64 C.nxt, .string ⟨t.name.toArray⟩, .slice ta t.cols.length tc, .slice tb t.key.length td] 33)) (.slice ta t.cols.length tc) t.cols) := hid (by
    obtain ⟨x', y', e9, c9, -, -, -⟩ := (HT.out.old (HBA9.out)).old HA.out
    simp only [List.cons.injEq, and_true, true_and] at e9
    obtain ⟨rfl, rfl⟩ := e9
    exact c9)
  have HTK : Hid (ZsN Nt (w9.alloc (.cells #[.int .i64 C.nxt, .string ⟨t.name.toArray⟩, .slice ta t.cols.length tc, .slice tb t.key.length td] 33)) (.slice tb t.key.length td) t.key) := hid (by
    obtain ⟨x', y', e9, -, k9, -, -⟩ := (HT.out.old (HBA9.out)).old HA.out
    simp only [List.cons.injEq, and_true, true_and] at e9
    obtain ⟨rfl, rfl⟩ := e9
    exact k9)
  go_upto_region 11 with (first
    | (at_builtin; refine wp_lapp2 (by rfl) _ _ 22 rfl w6.heap.size 4 72 33 Try.underlying22 (.agg #[.int .i64 0, .string ⟨#[]⟩, .slice none 0 0, .slice none 0 0]) (by kernel_rfl) (by simp [Value.cells]) (by decide) _ _ rfl HO5.out w9.heap.size [.int .i64 C.nxt, .string ⟨t.name.toArray⟩, .slice ta t.cols.length tc, .slice tb t.key.length td] rfl (fun j q hj => cell_in HRA.out j q (by simpa using hj)) rfl (fun q hq9 => by simp only [List.mem_cons, List.not_mem_nil, or_false] at hq9; rcases hq9 with rfl | rfl | rfl | rfl <;> rfl) (by unfold maxLen; omega) (by omega) (by have := HL7.out; have := HKA.out.size; omega) ⟨C.nxt, t.name, t.cols, t.key⟩ (fun va vc wA p1 p2 p3 => ?_); have hl1 := HO5.out.lt; have hl2 := HX5.out.lt; have hkg := Keep.of_grown (X := fun q => (Value.slice sa C.tabs.length sc).ownBlock = some q) p2 (fun k hk9 => hk9); have hl6 := HL6.out; have hl7 := HL7.out; have hsA := HKA.out.size; have hsg := p2.size; have hTN : TabN (fun k => k < wA.heap.size ∧ k ≠ w7.heap.size) wA [.int .i64 C.nxt, .string ⟨t.name.toArray⟩, .slice ta t.cols.length tc, .slice tb t.key.length td] ⟨C.nxt, t.name, t.cols, t.key⟩ := ⟨_, _, rfl, (HTC.out.keep hkg (fun k e e9 => by have := HNT.out k e; have := (hl1 k e9).1; omega)).mono (fun k e => by have := HNT.out k e; exact ⟨by omega, by omega⟩), (HTK.out.keep hkg (fun k e e9 => by have := HNT.out k e; have := (hl1 k e9).1; omega)).mono (fun k e => by have := HNT.out k e; exact ⟨by omega, by omega⟩), rfl, rfl⟩; have HOA := hid (p1 (TabN (fun k => k < wA.heap.size ∧ k ≠ w7.heap.size)) ⟨C.nxt, t.name, t.cols, t.key⟩ (fun r a h => (h.keep hkg (fun k e => e.1.2.2)).mono (fun k e => by have := e.1.2.1; exact ⟨by omega, by omega⟩)) hTN); have HXA := hid ((HX5.out.mono (R' := IdxN (fun k => k < wA.heap.size ∧ k ≠ w7.heap.size)) hkg (fun k e e9 => HO3.out k e9 e) (fun r a h => (h.keep hkg (fun k e e9 => e.2 e9)).mono (fun k e => by have := e.1.2.1; exact ⟨by omega, by omega⟩)))); have HNA := hid ((hkg.block _ (Nat.lt_of_lt_of_le (lt_of_block HN9.out) HA.out.size) (fun e => by have := (hl1 _ e).1; have := (HO1.out.lt _ e).2; omega)).trans ((HA.out.block _ (lt_of_block HN9.out)).trans HN9.out)); have HRB := hid ((hkg.block _ (Nat.lt_of_lt_of_le (lt_of_block HR9.out) HA.out.size) (fun e => by have := (hl1 _ e).1; omega)).trans ((HA.out.block _ (lt_of_block HR9.out)).trans HR9.out)); have HBB : Hid (Below w.heap.size w wA) := hid ((HBA9.out.trans (HA.out.mono HBA9.out.size)).trans (hkg.below (by omega) (fun k e => by have := (hl1 k e).1; omega))); have HS9 : Hid (w7.heap.size < wA.heap.size) := hid (by have := lt_of_block HN9.out; have := HA.out.size; omega); have HVA : Hid (∀ k, (Value.slice va (C.tabs.length + 1) vc).ownBlock = some k → k < wA.heap.size ∧ k ≠ w7.heap.size) := hid (fun k e => ⟨(HOA.out.lt k e).2, (p3 k e).elim (fun h => by have := (HO1.out.lt k h).2; omega) (fun h => by have := lt_of_block HN9.out; have := HA.out.size; omega)⟩); clear p1 p2 p3 hl1 hl2 hkg hsA hsg hTN hl6 hl7 n2 t0 t1 t2 t3; have n2 := cell_in HNA.out 2 _ rfl; have n2f := free_in HNA.out 2))
  have HNB : Hid ((wA.setCell ⟨w7.heap.size, 2, none⟩ (.slice va (C.tabs.length + 1) vc)).heap[w7.heap.size]? = some (.cells #[.int .i64 C.ver, .int .i64 C.nxt, .slice va (C.tabs.length + 1) vc, .slice ka C.idxs.length kc] 25 (0, 0))) := hid (put_in HNA.out 2 (.slice va (C.tabs.length + 1) vc))
  have HKB : Hid (Keep (fun k => k = w7.heap.size) wA (wA.setCell ⟨w7.heap.size, 2, none⟩ (.slice va (C.tabs.length + 1) vc))) := hid (Keep.set _ _ _ rfl)
  generalize wA.setCell ⟨w7.heap.size, 2, none⟩ (.slice va (C.tabs.length + 1) vc) = wB at *
  clear n2 n2f
  have HSB := hid HKB.out.size
  have HRB2 := hid ((HKB.out.block _ (lt_of_block HRB.out) (fun e => by have e9 : w.heap.size + 2 = w7.heap.size := e; have := HL6.out; have := HL7.out; omega)).trans HRB.out)
  have HBB2 : Hid (Below w.heap.size w wB) := hid (HBB.out.trans (HKB.out.below (by have := HBB.out.size; omega) (fun k e => by have e9 : k = w7.heap.size := e; have := HL6.out; have := HL7.out; omega)))
  have HC2 : Hid (CatN (fun k => k < wA.heap.size ∧ k ≠ w7.heap.size) wB [.int .i64 C.ver, .int .i64 C.nxt, .slice va (C.tabs.length + 1) vc, .slice ka C.idxs.length kc] { C with tabs := C.tabs ++ [⟨C.nxt, t.name, t.cols, t.key⟩] }) := hid
    ⟨_, _, rfl, (HOA.out.lst _ (fun k e => HVA.out k e)).keep HKB.out (fun k e e9 => e.2 e9) (fun r a h => h.keep HKB.out (fun k e e9 => e.2 e9)),
      (HXA.out.lst _ (fun k e => ⟨(HXA.out.lt k e).2, fun e9 => by have := (HO2.out.lt k e).2; omega⟩)).keep HKB.out (fun k e e9 => e.2 e9) (fun r a h => h.keep HKB.out (fun k e e9 => e.2 e9)), rfl, rfl⟩
  have HS2 : Hid (Cat.S { C with tabs := C.tabs ++ [⟨C.nxt, t.name, t.cols, t.key⟩] }) := hid ⟨by show (C.tabs ++ [_]).length ≤ 100; rw [List.length_append]; show C.tabs.length + 1 ≤ 100; omega, HS.out.2.1, fun q hq9 => by
    rcases List.mem_append.1 hq9 with h9 | h9
    · exact HS.out.2.2.1 q h9
    · simp only [List.mem_cons, List.not_mem_nil, or_false] at h9
      subst h9
      exact HTS.out, HS.out.2.2.2⟩
  have CC3 := hid (rCopy_any HC2.out (fun k hk => by have := HSB.out; have := hk.1; omega) HS2.out)
  have n0 := cell_in HNB.out 0 _ rfl
  have n1 := cell_in HNB.out 1 _ rfl
  have n2 := cell_in HNB.out 2 _ rfl
  have n3 := cell_in HNB.out 3 _ rfl
  go_upto_region 12 with (first | (go_at_call 11; refine CC3.out.mono ?_; rintro en wC ⟨vs, rfl, hbC, hcC⟩; obtain ⟨vx, vy, rfl, ho1, ho2, ho3⟩ := hcC; obtain ⟨ga, gc, rfl⟩ := own_form ho1; obtain ⟨ha, hc, rfl⟩ := own_form ho2; have HBC := hid hbC; have HP1 := hid ho1; have HP2 := hid ho2; have HNC := hid ((HBC.out.block _ (lt_of_block HNB.out)).trans HNB.out); have HRC := hid ((HBC.out.block _ (lt_of_block HRB2.out)).trans HRB2.out); clear hbC ho1 ho2 ho3 n0 n1 n2 n3; have n0 := cell_in HNC.out 0 _ rfl; have n1 := cell_in HNC.out 1 _ rfl; have n2 := cell_in HNC.out 2 _ rfl; have n3 := cell_in HNC.out 3 _ rfl; have n0f := free_in HNC.out 0; have n1f := free_in HNC.out 1; have n2f := free_in HNC.out 2; have n3f := free_in HNC.out 3))
  obtain ⟨pn, pk⟩ := put4 HNC.out (.int .i64 C.ver) (.int .i64 C.nxt) (.slice ga (C.tabs.length + 1) gc) (.slice ha C.idxs.length hc)
  generalize ((((wC.setCell ⟨w7.heap.size, 0, none⟩ (.int .i64 C.ver)).setCell ⟨w7.heap.size, 1, none⟩ (.int .i64 C.nxt)).setCell ⟨w7.heap.size, 2, none⟩ (.slice ga (C.tabs.length + 1) gc)).setCell ⟨w7.heap.size, 3, none⟩ (.slice ha C.idxs.length hc)) = wD at *
  have HND := hid pn
  have HKD : Hid (Keep (fun k => k = w7.heap.size) wC wD) := hid pk
  clear pn pk n0 n1 n2 n3 n0f n1f n2f n3f
  have n1 := cell_in HND.out 1 _ rfl
  have n1f := free_in HND.out 1
  have hnw : wrap64 (C.nxt + 1) = C.nxt + 1 := by have := HN.out; unfold wrap64; omega
  have hvw : wrap64 (C.ver + 1) = C.ver + 1 := by have := HV.out; unfold wrap64; omega
  go_upto_region 13 with fail
  have HNE2 := hid (put_in HND.out 1 (.int .i64 (C.nxt + 1)))
  have HKE : Hid (Keep (fun k => k = w7.heap.size) wC (wD.setCell ⟨w7.heap.size, 1, none⟩ (.int .i64 (C.nxt + 1)))) := hid (HKD.out.trans (Keep.set _ _ _ rfl))
  generalize wD.setCell ⟨w7.heap.size, 1, none⟩ (.int .i64 (C.nxt + 1)) = wE at *
  clear n1 n1f hnw
  have n0 := cell_in HNE2.out 0 _ rfl
  have n0f := free_in HNE2.out 0
  go_upto_region 14 with fail
  have HNF := hid (put_in HNE2.out 0 (.int .i64 (C.ver + 1)))
  have HKF : Hid (Keep (fun k => k = w7.heap.size) wE (wE.setCell ⟨w7.heap.size, 0, none⟩ (.int .i64 (C.ver + 1)))) := hid (Keep.set _ _ _ rfl)
  have HKG : Hid (Keep (fun k => k = w7.heap.size) wC (wE.setCell ⟨w7.heap.size, 0, none⟩ (.int .i64 (C.ver + 1)))) := hid (HKE.out.trans (Keep.set _ _ _ rfl))
  generalize wE.setCell ⟨w7.heap.size, 0, none⟩ (.int .i64 (C.ver + 1)) = wF at *
  clear n0 n0f hvw
  have n0 := cell_in HNF.out 0 _ rfl
  have n1 := cell_in HNF.out 1 _ rfl
  have n2 := cell_in HNF.out 2 _ rfl
  have n3 := cell_in HNF.out 3 _ rfl
  have HRF := hid ((HKG.out.block _ (lt_of_block HRC.out) (fun e => by have e9 : w.heap.size + 2 = w7.heap.size := e; have := HL6.out; have := HL7.out; omega)).trans HRC.out)
  have r0 := cell_in HRF.out 0 _ rfl
  have r1 := cell_in HRF.out 1 _ rfl
  have r2 := cell_in HRF.out 2 _ rfl
  have r3 := cell_in HRF.out 3 _ rfl
  have r0f := free_in HRF.out 0
  have r1f := free_in HRF.out 1
  have r2f := free_in HRF.out 2
  have r3f := free_in HRF.out 3
  go_wp2_with fail
  obtain ⟨p1, p2⟩ := put4 HRF.out (.int .i64 (C.ver + 1)) (.int .i64 (C.nxt + 1)) (.slice ga (C.tabs.length + 1) gc) (.slice ha C.idxs.length hc)
  generalize (((wF.setCell ⟨w.heap.size + 2, 0, none⟩ (.int .i64 (C.ver + 1))).setCell ⟨w.heap.size + 2, 1, none⟩ (.int .i64 (C.nxt + 1))).setCell ⟨w.heap.size + 2, 2, none⟩ (.slice ga (C.tabs.length + 1) gc)).setCell ⟨w.heap.size + 2, 3, none⟩ (.slice ha C.idxs.length hc) = s4 at *
  refine bodyPost_ret (results_cell2 rfl _ _ (w.heap.size + 2) 25 _ (0, 0) _ rfl p1 Try.underlying25 rfl (by kernel_rfl)) rfl ?_
  rw [HD.out]
  have hsb := HSB.out
  have hs9 := HS9.out
  have hl6 := HL6.out
  have hl7 := HL7.out
  have hsc := HKG.out.size
  have hs2 := p2.size
  have hbc := HBC.out.size
  have hbb := HBB2.out.size
  have hl1 := HP1.out.lt
  have hl2 := HP2.out.lt
  have hk : Keep (fun k => k = w7.heap.size ∨ k = w.heap.size + 2) wC s4 := (HKG.out.mono (fun k _ e => Or.inl e)).trans (p2.mono (fun k _ e => Or.inr e))
  have hb9 : Below w.heap.size w s4 := (below_step HBB2.out HBC.out).trans (hk.below (by omega) (fun k e => by rcases e with e | e <;> omega))
  have hno : ∀ k, wB.heap.size ≤ k → ¬ (k = w7.heap.size ∨ k = w.heap.size + 2) := fun k e e9 => by rcases e9 with e9 | e9 <;> omega
  have q1 := ((HP1.out.lst (fun k => wB.heap.size ≤ k ∧ k < wC.heap.size) (fun k e => hl1 k e)).keep hk (fun k e => hno k e.1) (fun r a h => h.keep hk (fun k e => hno k e.1.1))).mono (R' := TabN (Old N w s4)) (N' := Old N w s4) (fun k e => Or.inr ⟨by omega, by omega⟩) (fun r a h => h.mono (fun k e => Or.inr ⟨by have := e.1.1; omega, by have := e.1.2.1; omega⟩))
  have q2 := ((HP2.out.lst (fun k => wB.heap.size ≤ k ∧ k < wC.heap.size) (fun k e => hl2 k e)).keep hk (fun k e => hno k e.1) (fun r a h => h.keep hk (fun k e => hno k e.1.1))).mono (R' := IdxN (Old N w s4)) (N' := Old N w s4) (fun k e => Or.inr ⟨by omega, by omega⟩) (fun r a h => h.mono (fun k e => Or.inr ⟨by have := e.1.1; omega, by have := e.1.2.1; omega⟩))
  simp only [List.length_append, List.length_cons, List.length_nil, Nat.zero_add] at q1
  have hc9 : CatN (Old N w s4) s4 [.int .i64 (C.ver + 1), .int .i64 (C.nxt + 1), .slice ga (C.tabs.length + 1) gc, .slice ha C.idxs.length hc] (addTab C t) := ⟨_, _, rfl, q1, q2, rfl, rfl⟩
  exact ⟨_, rfl, hb9, hc9⟩
end Go.Proofs.Ytkpeidhddicdmaa
