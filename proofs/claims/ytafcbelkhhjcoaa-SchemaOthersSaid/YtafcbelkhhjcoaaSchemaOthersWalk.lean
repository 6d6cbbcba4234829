/-
  THE LAW SchemaOthers: the walk (made by src2/gen_sothers.py).
-/
import Derived.Test.YtafcbelkhhjcoaaSva
import Derived.Test.YtafcbelkhhjcoaaSqu
import Derived.Test.YtafcbelkhhjcoaaSp
import Derived.Test.YtafcbelkhhjcoaaSop
import Derived.Deep.CutRange
set_option linter.unusedVariables false
set_option linter.unusedSimpArgs false
set_option maxRecDepth 100000
namespace Go.Proofs.Ytafcbelkhhjcoaa.schemaOthers
open Go.RowKit Go.Deep

theorem life_setRow (w : World) (B : Nat) (cs : Array Value) : Keep (fun k => k = B) w (w.setRow B cs) := by
  refine ⟨rfl, rfl, rfl, ?_, ?_⟩
  · show w.heap.size ≤ (w.heap.modify B _).size
    simp
  · intro k hk hx
    show (w.heap.modify B _)[k]? = _
    rw [Array.getElem?_modify, if_neg (fun e => hx e.symm)]
set_option maxHeartbeats 32000000 in
theorem walk {H : Type} {enc : TypeId × Value → H} (v0 v1 v2 : Value) (id : Int) (W : World) {base : Nat} {d0 d1 d2 : DataW H} {p0 p1 p2 : List MemPlace} (hw0 : Value.okWide Try.prog W .any base 25 v0) (h0 : DataW.Trod enc Try.prog W 0 (fun _ => true) true 25 v0 d0 p0) (hk0 : ∀ n ∈ d0.weights Try.prog 25, n ≤ reachBytes)
    (hw1 : Value.okWide Try.prog W .any base 33 v1) (h1 : DataW.Trod enc Try.prog W 0 (fun _ => true) true 33 v1 d1 p1) (hk1 : ∀ n ∈ d1.weights Try.prog 33, n ≤ reachBytes)
    (hw2 : Value.okWide Try.prog W .any base 37 v2) (h2 : DataW.Trod enc Try.prog W 0 (fun _ => true) true 37 v2 d2 p2) (hk2 : ∀ n ∈ d2.weights Try.prog 37, n ≤ reachBytes) :
    Calls Try.prog 5 #[v0, v1, v2, .int .i64 id] W (fun e w' => e = .returned (.bool true) ∧ Below W.heap.size W w') := by
  obtain ⟨cs0, C, rfl, hc0, hW0⟩ := catalog_open hw0 h0
  obtain ⟨cs1, t, rfl, ht, htW⟩ := table_open hw1 h1
  obtain ⟨cs2, x, rfl, hx, hxW⟩ := index_open hw2 h2
  have HW0 := hid (hW0 hk0)
  have HTW := hid (htW hk1)
  have HC0 := hid hc0
  have HT0 := hid ht
  obtain ⟨a, c, a', c', rfl, -, -, -, -⟩ := cat_open hc0
  obtain ⟨ta, tc, tb, td, rfl⟩ := tab_form ht
  obtain ⟨xa, xc, rfl⟩ := idx_form hx
  clear hc0 ht hx hW0 htW hxW hw0 h0 hk0 hw1 h1 hk1 hw2 h2 hk2
  go_enter Try.func5, Try.ntmps5
  go_upto_region 1 with fail
  have hba := (Below.refl W.heap.size W).alloc (Nat.le_refl _) (.cells #[.int .i64 C.ver, .int .i64 C.nxt, .slice a C.tabs.length c, .slice a' C.idxs.length c'] 25)
  have hza := heap_alloc_new W (.cells #[.int .i64 C.ver, .int .i64 C.nxt, .slice a C.tabs.length c, .slice a' C.idxs.length c'] 25)
  have hsa : (W.alloc (.cells #[.int .i64 C.ver, .int .i64 C.nxt, .slice a C.tabs.length c, .slice a' C.idxs.length c'] 25)).heap.size = W.heap.size + 1 := by simp
  generalize W.alloc (.cells #[.int .i64 C.ver, .int .i64 C.nxt, .slice a C.tabs.length c, .slice a' C.idxs.length c'] 25) = wa at *
  have hbb := (Below.refl wa.heap.size wa).alloc (Nat.le_refl _) (.cells #[.int .i64 t.id, .string ⟨t.name.toArray⟩, .slice ta t.cols.length tc, .slice tb t.key.length td] 33)
  have hzb := heap_alloc_new wa (.cells #[.int .i64 t.id, .string ⟨t.name.toArray⟩, .slice ta t.cols.length tc, .slice tb t.key.length td] 33)
  have hsb : (wa.alloc (.cells #[.int .i64 t.id, .string ⟨t.name.toArray⟩, .slice ta t.cols.length tc, .slice tb t.key.length td] 33)).heap.size = W.heap.size + 2 := by rw [← Nat.add_assoc W.heap.size 1 1, ← hsa]; simp
  rw [hsa] at hzb
  generalize wa.alloc (.cells #[.int .i64 t.id, .string ⟨t.name.toArray⟩, .slice ta t.cols.length tc, .slice tb t.key.length td] 33) = wb at *
  have hbc := (Below.refl wb.heap.size wb).alloc (Nat.le_refl _) (.cells #[.int .i64 x.id, .int .i64 x.table, .string ⟨x.name.toArray⟩, .slice xa x.cols.length xc, .bool x.uniq, .int .i64 x.state, .bool x.bad] 37)
  have hzc := heap_alloc_new wb (.cells #[.int .i64 x.id, .int .i64 x.table, .string ⟨x.name.toArray⟩, .slice xa x.cols.length xc, .bool x.uniq, .int .i64 x.state, .bool x.bad] 37)
  rw [hsb] at hzc
  generalize wb.alloc (.cells #[.int .i64 x.id, .int .i64 x.table, .string ⟨x.name.toArray⟩, .slice xa x.cols.length xc, .bool x.uniq, .int .i64 x.state, .bool x.bad] 37) = w1 at *
  have HB1 := hid (below_step (below_step hba hbb) hbc)
  have hzb1 := (hbc.block _ (lt_of_block hzb)).trans hzb
  have HZ := hid ((hbc.block _ (lt_of_block ((hbb.block _ (lt_of_block hza)).trans hza))).trans ((hbb.block _ (lt_of_block hza)).trans hza))
  have HT := hid hzb1
  have HX := hid hzc
  clear hba hza hsa hbb hzb hsb hbc hzc hzb1
  have HKT : Hid (∀ V, Below w1.heap.size w1 V → V.cell? ⟨W.heap.size, 0, none⟩ = some (.int .i64 C.ver) ∧ V.cell? ⟨W.heap.size, 1, none⟩ = some (.int .i64 C.nxt) ∧ V.cell? ⟨W.heap.size, 2, none⟩ = some (.slice a C.tabs.length c) ∧ V.cell? ⟨W.heap.size, 3, none⟩ = some (.slice a' C.idxs.length c') ∧ V.cell? ⟨(W.heap.size + 1), 0, none⟩ = some (.int .i64 t.id) ∧ V.cell? ⟨(W.heap.size + 1), 1, none⟩ = some (.string ⟨t.name.toArray⟩) ∧ V.cell? ⟨(W.heap.size + 1), 2, none⟩ = some (.slice ta t.cols.length tc) ∧ V.cell? ⟨(W.heap.size + 1), 3, none⟩ = some (.slice tb t.key.length td) ∧ V.cell? ⟨(W.heap.size + 2), 0, none⟩ = some (.int .i64 x.id) ∧ V.cell? ⟨(W.heap.size + 2), 1, none⟩ = some (.int .i64 x.table) ∧ V.cell? ⟨(W.heap.size + 2), 2, none⟩ = some (.string ⟨x.name.toArray⟩) ∧ V.cell? ⟨(W.heap.size + 2), 3, none⟩ = some (.slice xa x.cols.length xc) ∧ V.cell? ⟨(W.heap.size + 2), 4, none⟩ = some (.bool x.uniq) ∧ V.cell? ⟨(W.heap.size + 2), 5, none⟩ = some (.int .i64 x.state) ∧ V.cell? ⟨(W.heap.size + 2), 6, none⟩ = some (.bool x.bad)) := hid (fun V hV => by
    have hHZ := (hV.block _ (lt_of_block HZ.out)).trans HZ.out
    have hHT := (hV.block _ (lt_of_block HT.out)).trans HT.out
    have hHX := (hV.block _ (lt_of_block HX.out)).trans HX.out
    exact ⟨cell_in hHZ 0 _ rfl, cell_in hHZ 1 _ rfl, cell_in hHZ 2 _ rfl, cell_in hHZ 3 _ rfl, cell_in hHT 0 _ rfl, cell_in hHT 1 _ rfl, cell_in hHT 2 _ rfl, cell_in hHT 3 _ rfl, cell_in hHX 0 _ rfl, cell_in hHX 1 _ rfl, cell_in hHX 2 _ rfl, cell_in hHX 3 _ rfl, cell_in hHX 4 _ rfl, cell_in hHX 5 _ rfl, cell_in hHX 6 _ rfl⟩)
  have CA1 := hid (awake_any w1)
  cases hs : smallB C with
  | false =>
    go_wp2_with (first | (go_at_call 14; refine CA1.out.mono ?_; rintro en w2 ⟨rfl, hb2⟩; have HCw2 := hid hb2; clear CA1; obtain ⟨q0, q1, q2, q3, q4, q5, q6, q7, q8, q9, q10, q11, q12, q13, q14⟩ := HKT.out _ HCw2.out; have CM := hid (small_any (HC0.out.old (below_step HB1.out HCw2.out))); rw [hs] at CM) | (go_at_call 13; refine CM.out.mono ?_; rintro en w3 ⟨rfl, hb3⟩; have HCw3 := hid (below_step HCw2.out hb3); clear q0 q1 q2 q3 q4 q5 q6 q7 q8 q9 q10 q11 q12 q13 q14 hb3 CM; obtain ⟨q0, q1, q2, q3, q4, q5, q6, q7, q8, q9, q10, q11, q12, q13, q14⟩ := HKT.out _ HCw3.out; have CA2 := hid (awake_any w3)) | (go_at_call 14; refine CA2.out.mono ?_; rintro en w8 ⟨rfl, hb8⟩; have HCw8 := hid (below_step HCw3.out hb8); clear hb8))
    go_ret
    exact ⟨rfl, below_step HB1.out HCw8.out⟩
  | true =>
  have HSM := hid (small_S hs)
  cases hq : catB C with
  | false =>
    go_wp2_with (first | (go_at_call 14; refine CA1.out.mono ?_; rintro en w2 ⟨rfl, hb2⟩; have HCw2 := hid hb2; clear CA1; obtain ⟨q0, q1, q2, q3, q4, q5, q6, q7, q8, q9, q10, q11, q12, q13, q14⟩ := HKT.out _ HCw2.out; have CM := hid (small_any (HC0.out.old (below_step HB1.out HCw2.out))); rw [hs] at CM) | (go_at_call 13; refine CM.out.mono ?_; rintro en w3 ⟨rfl, hb3⟩; have HCw3 := hid (below_step HCw2.out hb3); clear q0 q1 q2 q3 q4 q5 q6 q7 q8 q9 q10 q11 q12 q13 q14 hb3 CM; obtain ⟨q0, q1, q2, q3, q4, q5, q6, q7, q8, q9, q10, q11, q12, q13, q14⟩ := HKT.out _ HCw3.out; have CR := hid (rRight_any (HC0.out.old (below_step HB1.out HCw3.out)) HW0.out); rw [hq] at CR) | (go_at_call 17; refine CR.out.mono ?_; rintro en w4 ⟨rfl, hb4⟩; have HCw4 := hid (below_step HCw3.out hb4); clear q0 q1 q2 q3 q4 q5 q6 q7 q8 q9 q10 q11 q12 q13 q14 hb4 CR; obtain ⟨q0, q1, q2, q3, q4, q5, q6, q7, q8, q9, q10, q11, q12, q13, q14⟩ := HKT.out _ HCw4.out; have CA2 := hid (awake_any w4)) | (go_at_call 14; refine CA2.out.mono ?_; rintro en w8 ⟨rfl, hb8⟩; have HCw8 := hid (below_step HCw4.out hb8); clear hb8))
    go_ret
    exact ⟨rfl, below_step HB1.out HCw8.out⟩
  | true =>
  have HOK := hid ((catR_iff C).1 hq)
  by_cases hv0 : (1099511627776 : Int) < C.ver
  case pos =>
    go_wp2_with (first | (go_at_call 14; refine CA1.out.mono ?_; rintro en w2 ⟨rfl, hb2⟩; have HCw2 := hid hb2; clear CA1; obtain ⟨q0, q1, q2, q3, q4, q5, q6, q7, q8, q9, q10, q11, q12, q13, q14⟩ := HKT.out _ HCw2.out; have CM := hid (small_any (HC0.out.old (below_step HB1.out HCw2.out))); rw [hs] at CM) | (go_at_call 13; refine CM.out.mono ?_; rintro en w3 ⟨rfl, hb3⟩; have HCw3 := hid (below_step HCw2.out hb3); clear q0 q1 q2 q3 q4 q5 q6 q7 q8 q9 q10 q11 q12 q13 q14 hb3 CM; obtain ⟨q0, q1, q2, q3, q4, q5, q6, q7, q8, q9, q10, q11, q12, q13, q14⟩ := HKT.out _ HCw3.out; have CR := hid (rRight_any (HC0.out.old (below_step HB1.out HCw3.out)) HW0.out); rw [hq] at CR) | (go_at_call 17; refine CR.out.mono ?_; rintro en w4 ⟨rfl, hb4⟩; have HCw4 := hid (below_step HCw3.out hb4); clear q0 q1 q2 q3 q4 q5 q6 q7 q8 q9 q10 q11 q12 q13 q14 hb4 CR; obtain ⟨q0, q1, q2, q3, q4, q5, q6, q7, q8, q9, q10, q11, q12, q13, q14⟩ := HKT.out _ HCw4.out; have CA2 := hid (awake_any w4)) | (go_at_call 14; refine CA2.out.mono ?_; rintro en w8 ⟨rfl, hb8⟩; have HCw8 := hid (below_step HCw4.out hb8); clear hb8))
    go_ret
    exact ⟨rfl, below_step HB1.out HCw8.out⟩
  by_cases hv1 : (20 : Int) < (t.cols.length : Int)
  case pos =>
    go_wp2_with (first | (go_at_call 14; refine CA1.out.mono ?_; rintro en w2 ⟨rfl, hb2⟩; have HCw2 := hid hb2; clear CA1; obtain ⟨q0, q1, q2, q3, q4, q5, q6, q7, q8, q9, q10, q11, q12, q13, q14⟩ := HKT.out _ HCw2.out; have CM := hid (small_any (HC0.out.old (below_step HB1.out HCw2.out))); rw [hs] at CM) | (go_at_call 13; refine CM.out.mono ?_; rintro en w3 ⟨rfl, hb3⟩; have HCw3 := hid (below_step HCw2.out hb3); clear q0 q1 q2 q3 q4 q5 q6 q7 q8 q9 q10 q11 q12 q13 q14 hb3 CM; obtain ⟨q0, q1, q2, q3, q4, q5, q6, q7, q8, q9, q10, q11, q12, q13, q14⟩ := HKT.out _ HCw3.out; have CR := hid (rRight_any (HC0.out.old (below_step HB1.out HCw3.out)) HW0.out); rw [hq] at CR) | (go_at_call 17; refine CR.out.mono ?_; rintro en w4 ⟨rfl, hb4⟩; have HCw4 := hid (below_step HCw3.out hb4); clear q0 q1 q2 q3 q4 q5 q6 q7 q8 q9 q10 q11 q12 q13 q14 hb4 CR; obtain ⟨q0, q1, q2, q3, q4, q5, q6, q7, q8, q9, q10, q11, q12, q13, q14⟩ := HKT.out _ HCw4.out; have CA2 := hid (awake_any w4)) | (go_at_call 14; refine CA2.out.mono ?_; rintro en w8 ⟨rfl, hb8⟩; have HCw8 := hid (below_step HCw4.out hb8); clear hb8))
    go_ret
    exact ⟨rfl, below_step HB1.out HCw8.out⟩
  by_cases hv2 : (20 : Int) < (t.key.length : Int)
  case pos =>
    go_wp2_with (first | (go_at_call 14; refine CA1.out.mono ?_; rintro en w2 ⟨rfl, hb2⟩; have HCw2 := hid hb2; clear CA1; obtain ⟨q0, q1, q2, q3, q4, q5, q6, q7, q8, q9, q10, q11, q12, q13, q14⟩ := HKT.out _ HCw2.out; have CM := hid (small_any (HC0.out.old (below_step HB1.out HCw2.out))); rw [hs] at CM) | (go_at_call 13; refine CM.out.mono ?_; rintro en w3 ⟨rfl, hb3⟩; have HCw3 := hid (below_step HCw2.out hb3); clear q0 q1 q2 q3 q4 q5 q6 q7 q8 q9 q10 q11 q12 q13 q14 hb3 CM; obtain ⟨q0, q1, q2, q3, q4, q5, q6, q7, q8, q9, q10, q11, q12, q13, q14⟩ := HKT.out _ HCw3.out; have CR := hid (rRight_any (HC0.out.old (below_step HB1.out HCw3.out)) HW0.out); rw [hq] at CR) | (go_at_call 17; refine CR.out.mono ?_; rintro en w4 ⟨rfl, hb4⟩; have HCw4 := hid (below_step HCw3.out hb4); clear q0 q1 q2 q3 q4 q5 q6 q7 q8 q9 q10 q11 q12 q13 q14 hb4 CR; obtain ⟨q0, q1, q2, q3, q4, q5, q6, q7, q8, q9, q10, q11, q12, q13, q14⟩ := HKT.out _ HCw4.out; have CA2 := hid (awake_any w4)) | (go_at_call 14; refine CA2.out.mono ?_; rintro en w8 ⟨rfl, hb8⟩; have HCw8 := hid (below_step HCw4.out hb8); clear hb8))
    go_ret
    exact ⟨rfl, below_step HB1.out HCw8.out⟩
  by_cases hv3 : (20 : Int) < (x.cols.length : Int)
  case pos =>
    go_wp2_with (first | (go_at_call 14; refine CA1.out.mono ?_; rintro en w2 ⟨rfl, hb2⟩; have HCw2 := hid hb2; clear CA1; obtain ⟨q0, q1, q2, q3, q4, q5, q6, q7, q8, q9, q10, q11, q12, q13, q14⟩ := HKT.out _ HCw2.out; have CM := hid (small_any (HC0.out.old (below_step HB1.out HCw2.out))); rw [hs] at CM) | (go_at_call 13; refine CM.out.mono ?_; rintro en w3 ⟨rfl, hb3⟩; have HCw3 := hid (below_step HCw2.out hb3); clear q0 q1 q2 q3 q4 q5 q6 q7 q8 q9 q10 q11 q12 q13 q14 hb3 CM; obtain ⟨q0, q1, q2, q3, q4, q5, q6, q7, q8, q9, q10, q11, q12, q13, q14⟩ := HKT.out _ HCw3.out; have CR := hid (rRight_any (HC0.out.old (below_step HB1.out HCw3.out)) HW0.out); rw [hq] at CR) | (go_at_call 17; refine CR.out.mono ?_; rintro en w4 ⟨rfl, hb4⟩; have HCw4 := hid (below_step HCw3.out hb4); clear q0 q1 q2 q3 q4 q5 q6 q7 q8 q9 q10 q11 q12 q13 q14 hb4 CR; obtain ⟨q0, q1, q2, q3, q4, q5, q6, q7, q8, q9, q10, q11, q12, q13, q14⟩ := HKT.out _ HCw4.out; have CA2 := hid (awake_any w4)) | (go_at_call 14; refine CA2.out.mono ?_; rintro en w8 ⟨rfl, hb8⟩; have HCw8 := hid (below_step HCw4.out hb8); clear hb8))
    go_ret
    exact ⟨rfl, below_step HB1.out HCw8.out⟩
  go_upto_region 3 with (first | (go_at_call 14; refine CA1.out.mono ?_; rintro en w2 ⟨rfl, hb2⟩; have HCw2 := hid hb2; clear CA1; obtain ⟨q0, q1, q2, q3, q4, q5, q6, q7, q8, q9, q10, q11, q12, q13, q14⟩ := HKT.out _ HCw2.out; have CM := hid (small_any (HC0.out.old (below_step HB1.out HCw2.out))); rw [hs] at CM) | (go_at_call 13; refine CM.out.mono ?_; rintro en w3 ⟨rfl, hb3⟩; have HCw3 := hid (below_step HCw2.out hb3); clear q0 q1 q2 q3 q4 q5 q6 q7 q8 q9 q10 q11 q12 q13 q14 hb3 CM; obtain ⟨q0, q1, q2, q3, q4, q5, q6, q7, q8, q9, q10, q11, q12, q13, q14⟩ := HKT.out _ HCw3.out; have CR := hid (rRight_any (HC0.out.old (below_step HB1.out HCw3.out)) HW0.out); rw [hq] at CR) | (go_at_call 17; refine CR.out.mono ?_; rintro en w4 ⟨rfl, hb4⟩; have HCw4 := hid (below_step HCw3.out hb4); clear q0 q1 q2 q3 q4 q5 q6 q7 q8 q9 q10 q11 q12 q13 q14 hb4 CR; obtain ⟨q0, q1, q2, q3, q4, q5, q6, q7, q8, q9, q10, q11, q12, q13, q14⟩ := HKT.out _ HCw4.out))
  have HQ := hid hq
  clear hs hq
  have HVL := hid (show ¬ (1099511627776 : Int) < C.ver by omega)
  clear hv0
  have HV0 := hid HOK.out.ver
  have HNX := hid HOK.out.nxt
  have CI := hid (addTable_any (HC0.out.old (below_step HB1.out HCw4.out)) HSM.out (by have := HV0.out; have := HVL.out; omega) (by have := HNX.out; omega) (HT0.out.old (below_step HB1.out HCw4.out)) HTW.out (by omega))
  clear hv1 hv2 hv3
  have HAO := hid (addTableM_ok HOK.out t)
  have HAN := hid (addTable_new (C := C) (t := t))
  generalize addTableM C t = R at *
  go_upto_region 4 with (first | (go_at_call 32; refine CI.out.mono ?_; rintro en w5 ⟨vs, rfl, hb5, hc5⟩; obtain ⟨na, nc, nb, nd, rfl⟩ := cat_form hc5; have HCw5 := hid (below_step HCw4.out hb5); have HNN5 := hid hc5; clear hb5 hc5; clear q0 q1 q2 q3 q4 q5 q6 q7 q8 q9 q10 q11 q12 q13 q14; obtain ⟨q0, q1, q2, q3, q4, q5, q6, q7, q8, q9, q10, q11, q12, q13, q14⟩ := HKT.out _ HCw5.out))
  have hb6 := (Below.refl w5.heap.size w5).alloc (Nat.le_refl _) (.cells #[.int .i64 R.1.ver, .int .i64 R.1.nxt, .slice na R.1.tabs.length nc, .slice nb R.1.idxs.length nd] 25)
  have hz6 := heap_alloc_new w5 (.cells #[.int .i64 R.1.ver, .int .i64 R.1.nxt, .slice na R.1.tabs.length nc, .slice nb R.1.idxs.length nd] 25)
  generalize w5.alloc (.cells #[.int .i64 R.1.ver, .int .i64 R.1.nxt, .slice na R.1.tabs.length nc, .slice nb R.1.idxs.length nd] 25) = w6 at *
  have HNN6 := hid ((HNN5.out.old hb6).mono (fun k e => (show w4.heap.size ≤ k from e.1)))
  have HN5 := hid (show w1.heap.size ≤ w5.heap.size from HCw5.out.size)
  generalize w5.heap.size = bn at *
  have HCw6 := hid (HCw5.out.trans (hb6.mono HN5.out))
  have HN6 := hid hz6
  clear hb6 hz6 CI HNN5
  clear q0 q1 q2 q3 q4 q5 q6 q7 q8 q9 q10 q11 q12 q13 q14
  go_upto_if 61 with fail
  go_cut [10, 11, 12] from 54 to 109 (fun r9 u9 o9 wx => Hid (Below W.heap.size W wx) ∧ Hid (wx.heap[W.heap.size]? = some (.cells #[.int .i64 C.ver, .int .i64 C.nxt, .slice a C.tabs.length c, .slice a' C.idxs.length c'] 25 (0, 0))))
  case first =>
    by_cases hr : R.2 = 0
    case neg =>
      go_wp2_with fail
      go_meet
      exact ⟨hid (below_step HB1.out HCw6.out), hid ((HCw6.out.block _ (lt_of_block HZ.out)).trans HZ.out)⟩
    case pos =>
      obtain ⟨e1, hnn⟩ := HAN.out hr
      have HOA : Hid (CatOk (addTab C t)) := hid (by rw [← e1]; exact HAO.out.1)
      rw [e1] at HN6 HNN6
      clear e1 HAN HAO
      have CT := hid (oth_table HNN6.out HOA.out hnn)
      obtain ⟨q0, q1, q2, q3, q4, q5, q6, q7, q8, q9, q10, q11, q12, q13, q14⟩ := HKT.out _ HCw6.out
      have n0 := cell_in HN6.out 0 _ rfl
      have n1 := cell_in HN6.out 1 _ rfl
      have n2 := cell_in HN6.out 2 _ rfl
      have n3 := cell_in HN6.out 3 _ rfl
      have f0 := free_in ((HCw6.out.block _ (lt_of_block HT.out)).trans HT.out) 0
      go_upto_region 6 with (first | (go_at_call 19; refine CT.out.mono ?_; rintro en w7 ⟨ua, uc, ub, ud, rfl, hb7, hu7⟩; have HCw7 := hid (below_step HCw6.out hb7); have HX7 := hid hb7; have HU7 := hid hu7; clear hb7 hu7 CT n0 n1 n2 n3 f0; clear q0 q1 q2 q3 q4 q5 q6 q7 q8 q9 q10 q11 q12 q13 q14))
      have hb8 := (Below.refl w7.heap.size w7).alloc (Nat.le_refl _) (.cells #[.int .i64 C.nxt, .string ⟨t.name.toArray⟩, .slice ua t.cols.length uc, .slice ub t.key.length ud] 33)
      have hz8 := heap_alloc_new w7 (.cells #[.int .i64 C.nxt, .string ⟨t.name.toArray⟩, .slice ua t.cols.length uc, .slice ub t.key.length ud] 33)
      generalize w7.alloc (.cells #[.int .i64 C.nxt, .string ⟨t.name.toArray⟩, .slice ua t.cols.length uc, .slice ub t.key.length ud] 33) = w8 at *
      have HS7 := hid (show w6.heap.size ≤ w7.heap.size from HX7.out.size)
      have HN7 := hid ((HX7.out.block _ (lt_of_block HN6.out)).trans HN6.out)
      have HNN7 := hid (HNN6.out.old HX7.out)
      clear HN6 HNN6
      have HN8 := hid ((hb8.block _ (lt_of_block HN7.out)).trans HN7.out)
      have HNN8 := hid (HNN7.out.old hb8)
      have HL7 := hid (lt_of_block HN7.out)
      clear HN7 HNN7
      have HU8 := hid ((HU7.out.old hb8).mono (fun k e => (show w6.heap.size ≤ k from e.1)))
      have HS8 := hid HCw7.out.size
      generalize w7.heap.size = bu at *
      have HCw8 := hid (HCw7.out.trans (hb8.mono HS8.out))
      have HUB8 := hid hz8
      clear hb8 hz8 HU7
      obtain ⟨q0, q1, q2, q3, q4, q5, q6, q7, q8, q9, q10, q11, q12, q13, q14⟩ := HKT.out _ HCw8.out
      have f0 := free_in ((HCw8.out.block _ (lt_of_block HT.out)).trans HT.out) 0
      go_upto_region 7 with fail
      have hz9 := put_in ((HCw8.out.block _ (lt_of_block HT.out)).trans HT.out) 0 (.int .i64 C.nxt)
      have hk9 : Keep (fun k => k = W.heap.size + 1) w8 (w8.setCell ⟨W.heap.size + 1, 0, none⟩ (.int .i64 C.nxt)) := keepS1 _ _ _ _
      generalize w8.setCell ⟨W.heap.size + 1, 0, none⟩ (.int .i64 C.nxt) = w9 at *
      clear f0
      clear q0 q1 q2 q3 q4 q5 q6 q7 q8 q9 q10 q11 q12 q13 q14
      have HT9 := hid hz9
      have hlow := HB1.out.size
      have hlt := lt_of_block HX.out
      have HZ9 := hid ((hk9.block _ (lt_of_block ((HCw8.out.block _ (lt_of_block HZ.out)).trans HZ.out)) (fun e => by have e9 : W.heap.size = W.heap.size + 1 := e; omega)).trans ((HCw8.out.block _ (lt_of_block HZ.out)).trans HZ.out))
      have HN9 := hid ((hk9.block _ (lt_of_block HN8.out) (fun e => by have e9 : bn = W.heap.size + 1 := e; have := HN5.out; omega)).trans HN8.out)
      have HU9 := hid ((hk9.block _ (lt_of_block HUB8.out) (fun e => by have e9 : bu = W.heap.size + 1 := e; have := HN5.out; have := HL7.out; omega)).trans HUB8.out)
      have HCN9 := hid (HNN8.out.keep hk9 (fun k e e9 => by have e8 : w4.heap.size ≤ k := e; have e7 : k = W.heap.size + 1 := e9; have := HCw4.out.size; omega))
      have HTU9 := hid (HU8.out.keep hk9 (fun k e e9 => by have e8 : w6.heap.size ≤ k := e; have e7 : k = W.heap.size + 1 := e9; have := HCw6.out.size; omega))
      have HCC9 := hid ((HC0.out.old (below_step HB1.out HCw8.out)).keep hk9 (fun k e e9 => by have e8 : k < W.heap.size := e; have e7 : k = W.heap.size + 1 := e9; omega))
      have HTT9 : Hid (TabN (Low W) w9 [.int .i64 C.nxt, .string ⟨t.name.toArray⟩, .slice ta t.cols.length tc, .slice tb t.key.length td] { t with id := C.nxt }) := hid (by
        obtain ⟨y1, y2, e, g1, g2, g3, g4⟩ := (HT0.out.old (below_step HB1.out HCw8.out)).keep hk9 (X := fun k => k = W.heap.size + 1) (fun k e e9 => by have e8 : k < W.heap.size := e; have e7 : k = W.heap.size + 1 := e9; omega)
        injection e with e1 e; injection e with e2 e; injection e with e3 e; injection e with e4 e
        subst e3 e4
        exact ⟨_, _, rfl, g1, g2, g3, g4⟩)
      have HBW : Hid (Below W.heap.size W w9) := hid ((below_step HB1.out HCw8.out).trans (hk9.below (by have := HCw8.out.size; omega) (fun k e => by have e9 : k = W.heap.size + 1 := e; omega)))
      have HCw9 : Hid (Below w9.heap.size w9 w9) := hid (Below.refl _ _)
      clear hz9 hk9 hlow hlt HNN8 HU8 HUB8 HN8
      have HK9 : Hid (∀ V, Below w9.heap.size w9 V → V.cell? ⟨W.heap.size, 0, none⟩ = some (.int .i64 C.ver) ∧ V.cell? ⟨W.heap.size, 1, none⟩ = some (.int .i64 C.nxt) ∧ V.cell? ⟨W.heap.size, 2, none⟩ = some (.slice a C.tabs.length c) ∧ V.cell? ⟨W.heap.size, 3, none⟩ = some (.slice a' C.idxs.length c') ∧ V.cell? ⟨(W.heap.size + 1), 0, none⟩ = some (.int .i64 C.nxt) ∧ V.cell? ⟨(W.heap.size + 1), 1, none⟩ = some (.string ⟨t.name.toArray⟩) ∧ V.cell? ⟨(W.heap.size + 1), 2, none⟩ = some (.slice ta t.cols.length tc) ∧ V.cell? ⟨(W.heap.size + 1), 3, none⟩ = some (.slice tb t.key.length td) ∧ V.cell? ⟨bn, 0, none⟩ = some (.int .i64 (addTab C t).ver) ∧ V.cell? ⟨bn, 1, none⟩ = some (.int .i64 (addTab C t).nxt) ∧ V.cell? ⟨bn, 2, none⟩ = some (.slice na (addTab C t).tabs.length nc) ∧ V.cell? ⟨bn, 3, none⟩ = some (.slice nb (addTab C t).idxs.length nd) ∧ V.cell? ⟨bu, 0, none⟩ = some (.int .i64 C.nxt) ∧ V.cell? ⟨bu, 1, none⟩ = some (.string ⟨t.name.toArray⟩) ∧ V.cell? ⟨bu, 2, none⟩ = some (.slice ua t.cols.length uc) ∧ V.cell? ⟨bu, 3, none⟩ = some (.slice ub t.key.length ud)) := hid (fun V hV => by
        have hHZ9 := (hV.block _ (lt_of_block HZ9.out)).trans HZ9.out
        have hHT9 := (hV.block _ (lt_of_block HT9.out)).trans HT9.out
        have hHN9 := (hV.block _ (lt_of_block HN9.out)).trans HN9.out
        have hHU9 := (hV.block _ (lt_of_block HU9.out)).trans HU9.out
        exact ⟨cell_in hHZ9 0 _ rfl, cell_in hHZ9 1 _ rfl, cell_in hHZ9 2 _ rfl, cell_in hHZ9 3 _ rfl, cell_in hHT9 0 _ rfl, cell_in hHT9 1 _ rfl, cell_in hHT9 2 _ rfl, cell_in hHT9 3 _ rfl, cell_in hHN9 0 _ rfl, cell_in hHN9 1 _ rfl, cell_in hHN9 2 _ rfl, cell_in hHN9 3 _ rfl, cell_in hHU9 0 _ rfl, cell_in hHU9 1 _ rfl, cell_in hHU9 2 _ rfl, cell_in hHU9 3 _ rfl⟩)
      obtain ⟨hat1, hat2, hat3⟩ := addTab_tabs (C := C) (t := t)
      obtain ⟨vt, vi, e, hlt9, hli9, -, -⟩ := HCN9.out
      injection e with e1 e; injection e with e2 e; injection e with e3 e; injection e with e4 e
      subst e3 e4
      obtain ⟨vt2, vi2, e, hlt0, hli0, -, -⟩ := HCC9.out
      injection e with e1 e; injection e with e2 e; injection e with e3 e; injection e with e4 e
      subst e3 e4
      rw [hat3] at hli9
      have HSI := hid hli9
      have HSI0 := hid hli0
      have HST := hid hlt9
      have HST0 := hid hlt0
      clear hlt9 hli9 hlt0 hli0 e1 e2 e
      have hl5 : C.tabs.length ≤ 6 := HOK.out.len.1
      have HL5 := hid hl5
      obtain ⟨ah, ch, e, hle9, -, -⟩ := tb_cells HST.out
      have hle : C.tabs.length ≤ nc := by injection e with e1 e2 e3; omega
      clear e hle9 ah ch
      have HLE := hid hle
      obtain ⟨M9, hM1, hM2, hM3, hM4⟩ := HST.out
      have HTK : Hid (LstN (TabN (fun k => w4.heap.size ≤ k)) 4 (fun k => w4.heap.size ≤ k) w9 (.slice na C.tabs.length nc) C.tabs) := hid (by
        refine ⟨M9.take C.tabs.length, by rw [List.length_take, hM1, hat2]; omega, hM2.take _ (by rw [hM1, hat2]; omega), fun i r u hr hu => hM3 i r u ?_ ?_, fun hne q hq => hM4 (fun e => by rw [e] at hat2; simp at hat2) q (by cases na with | none => simp [blk] at hq | some z => simpa [blk] using hq)⟩
        · rw [List.getElem?_take] at hr; split at hr
          · exact hr
          · cases hr
        · show (C.tabs ++ [_])[i]? = _
          rw [List.getElem?_append_left (List.getElem?_eq_some_iff.1 hu).1]; exact hu)
      clear hM1 hM2 hM3 hM4 hle HST
      refine wp_region_noPanic ?_
      refine wp_region_held_drew (S := fun V => Hid (Below w9.heap.size w9 V)) (by kernel_rfl) (hid (Below.drew (Below.refl _ _))) (fun hHeld => ?_)
      generalize w9.drew = Wd at *
      refine tkH 0 (.bool true) rfl (by kernel_rfl) (fun _ _ _ => False.elim) hHeld (Or.inl ⟨by rfl, fun W9 hW => by clear hHeld hW; simp only [jA, jB, jC]; go_simp⟩) ?_
      simp only [Act.put, jA, jB, jC, jD, jE, jF]
      refine tkH 1 (.bool false) rfl (by kernel_rfl) (fun _ _ _ => False.elim) hHeld (Or.inl ⟨by rfl, fun W9 hW => by clear hHeld hW; simp only [jA, jB, jC]; go_simp⟩) ?_
      simp only [Act.put, jA, jB, jC, jD, jE, jF]
      refine tkH 2 (.bool false) rfl (by kernel_rfl) (fun _ _ _ => False.elim) hHeld (Or.inl ⟨by rfl, fun W9 hW => by clear hHeld hW; simp only [jA, jB, jC]; go_simp⟩) ?_
      simp only [Act.put, jA, jB, jC, jD, jE, jF]
      refine tkH 3 (.agg #[.int .i64 C.nxt, .string ⟨t.name.toArray⟩, .slice ua t.cols.length uc, .slice ub t.key.length ud]) rfl (by kernel_rfl) (fun _ _ _ => False.elim) hHeld (Or.inl ⟨by rfl, fun W9 hW => by obtain ⟨q0, q1, q2, q3, q4, q5, q6, q7, q8, q9, q10, q11, q12, q13, q14, q15⟩ := HK9.out _ (below_step HCw9.out hW.out); clear hHeld hW; simp only [jA, jB, jC]; go_simp⟩) ?_
      simp only [Act.put, jA, jB, jC, jD, jE, jF]
      refine tkH 4 (.agg #[.int .i64 C.nxt, .string ⟨t.name.toArray⟩, .slice ta t.cols.length tc, .slice tb t.key.length td]) rfl (by kernel_rfl) (fun _ _ _ => False.elim) hHeld (Or.inl ⟨by rfl, fun W9 hW => by obtain ⟨q0, q1, q2, q3, q4, q5, q6, q7, q8, q9, q10, q11, q12, q13, q14, q15⟩ := HK9.out _ (below_step HCw9.out hW.out); clear hHeld hW; simp only [jA, jB, jC]; go_simp⟩) ?_
      simp only [Act.put, jA, jB, jC, jD, jE, jF]
      refine rdH 5 (by kernel_rfl) rfl fun K hK => ?_
      rw [if_pos (by rfl)]
      go_simp
      have CQ := hid (tab_same (HTU9.out.old (below_step HCw9.out hHeld.out)) (HTT9.out.old (below_step HCw9.out hHeld.out)))
      go_wp2_with (first | (go_at_call 24; refine CQ.out.mono ?_; rintro en wc1 ⟨rfl, hbE⟩; have HBE := hid (below_step hHeld.out hbE); have HCwc1 := hid (below_step HCw9.out HBE.out)))
      clear CQ
      clear hHeld
      refine hK.out _ _ HBE (fun hHeld => ?_)
      clear hK K
      try simp only [Act.put, jA, jB, jC, jD, jE, jF]
      refine wpAnyH_low2 (S' := fun V => Hid (Below wc1.heap.size wc1 V)) (fun V hV => hid (below_step HBE.out hV.out)) _ _ _ _ ?_
      clear hHeld HBE
      have hHeld : Hid (Below wc1.heap.size wc1 wc1) := hid (Below.refl _ _)
      refine tkH 6 (.bool false) rfl (by kernel_rfl) (fun _ _ _ => False.elim) hHeld (Or.inl ⟨by rfl, fun W9 hW => by clear hHeld hW; simp only [jA, jB, jC]; go_simp⟩) ?_
      simp only [Act.put, jA, jB, jC, jD, jE, jF]
      refine tkH 7 (.bool false) rfl (by kernel_rfl) (fun _ _ _ => False.elim) hHeld (Or.inl ⟨by rfl, fun W9 hW => by clear hHeld hW; simp only [jA, jB, jC]; go_simp⟩) ?_
      simp only [Act.put, jA, jB, jC, jD, jE, jF]
      refine tkH 8 (.bool false) rfl (by kernel_rfl) (fun _ _ _ => False.elim) hHeld (Or.inl ⟨by rfl, fun W9 hW => by clear hHeld hW; simp only [jA, jB, jC]; go_simp⟩) ?_
      simp only [Act.put, jA, jB, jC, jD, jE, jF]
      refine tkH 9 (.pointer (some ⟨bn, 3, none⟩)) rfl (by kernel_rfl) (fun _ _ _ => False.elim) hHeld (Or.inl ⟨by rfl, fun W9 hW => by clear hHeld hW; simp only [jA, jB, jC]; go_simp⟩) ?_
      simp only [Act.put, jA, jB, jC, jD, jE, jF]
      refine tkH 10 (.slice nb (addTab C t).idxs.length nd) rfl (by kernel_rfl) (fun _ _ _ => False.elim) hHeld (Or.inl ⟨by rfl, fun W9 hW => by obtain ⟨q0, q1, q2, q3, q4, q5, q6, q7, q8, q9, q10, q11, q12, q13, q14, q15⟩ := HK9.out _ (below_step HCwc1.out hW.out); clear hHeld hW; simp only [jA, jB, jC]; go_simp⟩) ?_
      simp only [Act.put, jA, jB, jC, jD, jE, jF]
      refine tkH 11 (.pointer (some ⟨W.heap.size, 3, none⟩)) rfl (by kernel_rfl) (fun _ _ _ => False.elim) hHeld (Or.inl ⟨by rfl, fun W9 hW => by clear hHeld hW; simp only [jA, jB, jC]; go_simp⟩) ?_
      simp only [Act.put, jA, jB, jC, jD, jE, jF]
      refine tkH 12 (.slice a' C.idxs.length c') rfl (by kernel_rfl) (fun _ _ _ => False.elim) hHeld (Or.inl ⟨by rfl, fun W9 hW => by obtain ⟨q0, q1, q2, q3, q4, q5, q6, q7, q8, q9, q10, q11, q12, q13, q14, q15⟩ := HK9.out _ (below_step HCwc1.out hW.out); clear hHeld hW; simp only [jA, jB, jC]; go_simp⟩) ?_
      simp only [Act.put, jA, jB, jC, jD, jE, jF]
      refine rdH 13 (by kernel_rfl) rfl fun K hK => ?_
      rw [if_pos (by rfl)]
      go_simp
      have CQ := hid (sameIdx_any _ (HSI.out.oldI (below_step HCwc1.out hHeld.out)) (HSI0.out.oldI (below_step HCwc1.out hHeld.out)))
      go_wp2_with (first | (go_at_call 26; refine CQ.out.mono ?_; rintro en wc2 ⟨rfl, hbE⟩; have HBE := hid (below_step hHeld.out hbE); have HCwc2 := hid (below_step HCwc1.out HBE.out)))
      clear CQ
      clear hHeld
      refine hK.out _ _ HBE (fun hHeld => ?_)
      clear hK K
      try simp only [Act.put, jA, jB, jC, jD, jE, jF]
      refine wpAnyH_low2 (S' := fun V => Hid (Below wc2.heap.size wc2 V)) (fun V hV => hid (below_step HBE.out hV.out)) _ _ _ _ ?_
      clear hHeld HBE
      have hHeld : Hid (Below wc2.heap.size wc2 wc2) := hid (Below.refl _ _)
      refine tkH 14 (.bool false) rfl (by kernel_rfl) (fun _ _ _ => False.elim) hHeld (Or.inl ⟨by rfl, fun W9 hW => by clear hHeld hW; simp only [jA, jB, jC]; go_simp⟩) ?_
      simp only [Act.put, jA, jB, jC, jD, jE, jF]
      refine tkH 15 (.bool false) rfl (by kernel_rfl) (fun _ _ _ => False.elim) hHeld (Or.inl ⟨by rfl, fun W9 hW => by clear hHeld hW; simp only [jA, jB, jC]; go_simp⟩) ?_
      simp only [Act.put, jA, jB, jC, jD, jE, jF]
      refine tkH 16 (.bool false) rfl (by kernel_rfl) (fun _ _ _ => False.elim) hHeld (Or.inl ⟨by rfl, fun W9 hW => by clear hHeld hW; simp only [jA, jB, jC]; go_simp⟩) ?_
      simp only [Act.put, jA, jB, jC, jD, jE, jF]
      refine tkH 17 (.pointer (some ⟨bn, 2, none⟩)) rfl (by kernel_rfl) (fun _ _ _ => False.elim) hHeld (Or.inl ⟨by rfl, fun W9 hW => by clear hHeld hW; simp only [jA, jB, jC]; go_simp⟩) ?_
      simp only [Act.put, jA, jB, jC, jD, jE, jF]
      refine tkH 18 (.slice na (addTab C t).tabs.length nc) rfl (by kernel_rfl) (fun _ _ _ => False.elim) hHeld (Or.inl ⟨by rfl, fun W9 hW => by obtain ⟨q0, q1, q2, q3, q4, q5, q6, q7, q8, q9, q10, q11, q12, q13, q14, q15⟩ := HK9.out _ (below_step HCwc2.out hW.out); clear hHeld hW; simp only [jA, jB, jC]; go_simp⟩) ?_
      simp only [Act.put, jA, jB, jC, jD, jE, jF]
      refine tkH 19 (.int .i64 ((addTab C t).tabs.length : Int)) rfl (by kernel_rfl) (fun _ _ _ => False.elim) hHeld (Or.inl ⟨by rfl, fun W9 hW => by clear hHeld hW; simp only [jA, jB, jC]; go_simp⟩) ?_
      simp only [Act.put, jA, jB, jC, jD, jE, jF]
      refine tkH 20 (.pointer (some ⟨W.heap.size, 2, none⟩)) rfl (by kernel_rfl) (fun _ _ _ => False.elim) hHeld (Or.inl ⟨by rfl, fun W9 hW => by clear hHeld hW; simp only [jA, jB, jC]; go_simp⟩) ?_
      simp only [Act.put, jA, jB, jC, jD, jE, jF]
      refine tkH 21 (.slice a C.tabs.length c) rfl (by kernel_rfl) (fun _ _ _ => False.elim) hHeld (Or.inl ⟨by rfl, fun W9 hW => by obtain ⟨q0, q1, q2, q3, q4, q5, q6, q7, q8, q9, q10, q11, q12, q13, q14, q15⟩ := HK9.out _ (below_step HCwc2.out hW.out); clear hHeld hW; simp only [jA, jB, jC]; go_simp⟩) ?_
      simp only [Act.put, jA, jB, jC, jD, jE, jF]
      refine tkH 22 (.int .i64 (C.tabs.length : Int)) rfl (by kernel_rfl) (fun _ _ _ => False.elim) hHeld (Or.inl ⟨by rfl, fun W9 hW => by clear hHeld hW; simp only [jA, jB, jC]; go_simp⟩) ?_
      simp only [Act.put, jA, jB, jC, jD, jE, jF]
      refine tkH 23 (.int .i64 ((C.tabs.length : Int) + 1)) rfl (by kernel_rfl) (fun _ _ _ => False.elim) hHeld (Or.inl ⟨by rfl, fun W9 hW => by have hl5 := HL5.out; have hww : IntKind.i64.wrap ((C.tabs.length : Int) + 1) = (C.tabs.length : Int) + 1 := (by rw [IntKind.wrap_i64]; omega); clear hHeld hW; simp only [jA, jB, jC]; go_simp⟩) ?_
      simp only [Act.put, jA, jB, jC, jD, jE, jF]
      refine tkH 24 (.bool false) rfl (by kernel_rfl) (fun _ _ _ => False.elim) hHeld (Or.inl ⟨by rfl, fun W9 hW => by have hat9 : ((addTab C t).tabs.length : Int) = (C.tabs.length : Int) + 1 := (by rw [hat2]; simp); clear hHeld hW; simp only [jA, jB, jC]; go_simp⟩) ?_
      simp only [Act.put, jA, jB, jC, jD, jE, jF]
      refine tkH 25 (.bool false) rfl (by kernel_rfl) (fun _ _ _ => False.elim) hHeld (Or.inl ⟨by rfl, fun W9 hW => by clear hHeld hW; simp only [jA, jB, jC]; go_simp⟩) ?_
      simp only [Act.put, jA, jB, jC, jD, jE, jF]
      refine tkH 26 (.bool false) rfl (by kernel_rfl) (fun _ _ _ => False.elim) hHeld (Or.inl ⟨by rfl, fun W9 hW => by clear hHeld hW; simp only [jA, jB, jC]; go_simp⟩) ?_
      simp only [Act.put, jA, jB, jC, jD, jE, jF]
      refine tkH 27 (.pointer (some ⟨bn, 2, none⟩)) rfl (by kernel_rfl) (fun _ _ _ => False.elim) hHeld (Or.inl ⟨by rfl, fun W9 hW => by clear hHeld hW; simp only [jA, jB, jC]; go_simp⟩) ?_
      simp only [Act.put, jA, jB, jC, jD, jE, jF]
      refine tkH 28 (.slice na (addTab C t).tabs.length nc) rfl (by kernel_rfl) (fun _ _ _ => False.elim) hHeld (Or.inl ⟨by rfl, fun W9 hW => by obtain ⟨q0, q1, q2, q3, q4, q5, q6, q7, q8, q9, q10, q11, q12, q13, q14, q15⟩ := HK9.out _ (below_step HCwc2.out hW.out); clear hHeld hW; simp only [jA, jB, jC]; go_simp⟩) ?_
      simp only [Act.put, jA, jB, jC, jD, jE, jF]
      refine tkH 29 (.pointer (some ⟨W.heap.size, 2, none⟩)) rfl (by kernel_rfl) (fun _ _ _ => False.elim) hHeld (Or.inl ⟨by rfl, fun W9 hW => by clear hHeld hW; simp only [jA, jB, jC]; go_simp⟩) ?_
      simp only [Act.put, jA, jB, jC, jD, jE, jF]
      refine tkH 30 (.slice a C.tabs.length c) rfl (by kernel_rfl) (fun _ _ _ => False.elim) hHeld (Or.inl ⟨by rfl, fun W9 hW => by obtain ⟨q0, q1, q2, q3, q4, q5, q6, q7, q8, q9, q10, q11, q12, q13, q14, q15⟩ := HK9.out _ (below_step HCwc2.out hW.out); clear hHeld hW; simp only [jA, jB, jC]; go_simp⟩) ?_
      simp only [Act.put, jA, jB, jC, jD, jE, jF]
      refine tkH 31 (.int .i64 (C.tabs.length : Int)) rfl (by kernel_rfl) (fun _ _ _ => False.elim) hHeld (Or.inl ⟨by rfl, fun W9 hW => by clear hHeld hW; simp only [jA, jB, jC]; go_simp⟩) ?_
      simp only [Act.put, jA, jB, jC, jD, jE, jF]
      refine tkH 32 (.slice na C.tabs.length nc) rfl (by kernel_rfl) (fun _ _ _ => False.elim) hHeld (Or.inl ⟨by rfl, fun W9 hW => by have hle := HLE.out; clear hHeld hW; simp only [jA, jB, jC]; go_simp⟩) ?_
      simp only [Act.put, jA, jB, jC, jD, jE, jF]
      refine tkH 33 (.pointer (some ⟨W.heap.size, 2, none⟩)) rfl (by kernel_rfl) (fun _ _ _ => False.elim) hHeld (Or.inl ⟨by rfl, fun W9 hW => by clear hHeld hW; simp only [jA, jB, jC]; go_simp⟩) ?_
      simp only [Act.put, jA, jB, jC, jD, jE, jF]
      refine tkH 34 (.slice a C.tabs.length c) rfl (by kernel_rfl) (fun _ _ _ => False.elim) hHeld (Or.inl ⟨by rfl, fun W9 hW => by obtain ⟨q0, q1, q2, q3, q4, q5, q6, q7, q8, q9, q10, q11, q12, q13, q14, q15⟩ := HK9.out _ (below_step HCwc2.out hW.out); clear hHeld hW; simp only [jA, jB, jC]; go_simp⟩) ?_
      simp only [Act.put, jA, jB, jC, jD, jE, jF]
      refine rdH 35 (by kernel_rfl) rfl fun K hK => ?_
      rw [if_pos (by rfl)]
      go_simp
      have CQ := hid (sameTab_any _ (HTK.out.oldT (below_step HCwc2.out hHeld.out)) (HST0.out.oldT (below_step HCwc2.out hHeld.out)))
      go_wp2_with (first | (go_at_call 37; refine CQ.out.mono ?_; rintro en wc3 ⟨rfl, hbE⟩; have HBE := hid (below_step hHeld.out hbE); have HCwc3 := hid (below_step HCwc2.out HBE.out)))
      clear CQ
      clear hHeld
      refine hK.out _ _ HBE (fun hHeld => ?_)
      clear hK K
      try simp only [Act.put, jA, jB, jC, jD, jE, jF]
      refine wpAnyH_low2 (S' := fun V => Hid (Below wc3.heap.size wc3 V)) (fun V hV => hid (below_step HBE.out hV.out)) _ _ _ _ ?_
      clear hHeld HBE
      have hHeld : Hid (Below wc3.heap.size wc3 wc3) := hid (Below.refl _ _)
      refine tkH 36 (.bool false) rfl (by kernel_rfl) (fun _ _ _ => False.elim) hHeld (Or.inl ⟨by rfl, fun W9 hW => by clear hHeld hW; simp only [jA, jB, jC]; go_simp⟩) ?_
      simp only [Act.put, jA, jB, jC, jD, jE, jF]
      refine tkH 37 (.bool false) rfl (by kernel_rfl) (fun _ _ _ => False.elim) hHeld (Or.inl ⟨by rfl, fun W9 hW => by clear hHeld hW; simp only [jA, jB, jC]; go_simp⟩) ?_
      simp only [Act.put, jA, jB, jC, jD, jE, jF]
      refine wpAnyH_done (by kernel_rfl) (NoPanic.normal ?_) _
      clear hHeld
      go_wp2_with fail
      go_meet
      exact ⟨hid (below_step HBW.out HCwc3.out), hid ((HCwc3.out.block _ (lt_of_block HZ9.out)).trans HZ9.out)⟩
  case rest =>
  obtain ⟨HBr, HZr⟩ := hcut
  generalize wc = w20 at *
  go_upto_region 9 with fail
  clear HAN HAO HN5 HCw6 HNN6 HN6 HCw5
  have HK20 : Hid (∀ V, Below w20.heap.size w20 V → V.cell? ⟨W.heap.size, 0, none⟩ = some (.int .i64 C.ver) ∧ V.cell? ⟨W.heap.size, 1, none⟩ = some (.int .i64 C.nxt) ∧ V.cell? ⟨W.heap.size, 2, none⟩ = some (.slice a C.tabs.length c) ∧ V.cell? ⟨W.heap.size, 3, none⟩ = some (.slice a' C.idxs.length c')) := hid (fun V hV => by
    have hHZr := (hV.block _ (lt_of_block HZr.out)).trans HZr.out
    exact ⟨cell_in hHZr 0 _ rfl, cell_in hHZr 1 _ rfl, cell_in hHZr 2 _ rfl, cell_in hHZr 3 _ rfl⟩)
  have HCw20 : Hid (Below w20.heap.size w20 w20) := hid (Below.refl _ _)
  generalize hst : (C.idxs.find? (fun t => decide (t.id = id))).elim 0 Idx.state = st at *
  have HST : Hid (∀ V, Below w20.heap.size w20 V → Calls Try.prog 33 #[.agg #[.int .i64 C.ver, .int .i64 C.nxt, .slice a C.tabs.length c, .slice a' C.idxs.length c'], .int .i64 id] V (fun e w' => e = .returned (.int .i64 st) ∧ Below V.heap.size V w')) := hid (fun V hV => by rw [← hst]; exact stateOf_any (HC0.out.old (below_step HBr.out hV)) id)
  have HSP : Hid (∀ V, Below w20.heap.size w20 V → Calls Try.prog 31 #[.agg #[.int .i64 C.ver, .int .i64 C.nxt, .slice a C.tabs.length c, .slice a' C.idxs.length c'], .int .i64 id, .int .i64 st, .int .i64 (nextI st), .bool false] V (fun e w' => ∃ s1 s2 s3 s4, e = .returned (.tuple #[.agg #[.int .i64 (stepM C id st (nextI st) false).1.ver, .int .i64 (stepM C id st (nextI st) false).1.nxt, .slice s1 (stepM C id st (nextI st) false).1.tabs.length s2, .slice s3 (stepM C id st (nextI st) false).1.idxs.length s4], .int .i64 (stepM C id st (nextI st) false).2]) ∧ Below V.heap.size V w' ∧ CatN (New V w') w' [.int .i64 (stepM C id st (nextI st) false).1.ver, .int .i64 (stepM C id st (nextI st) false).1.nxt, .slice s1 (stepM C id st (nextI st) false).1.tabs.length s2, .slice s3 (stepM C id st (nextI st) false).1.idxs.length s4] (stepM C id st (nextI st) false).1)) := hid (fun V hV => by
    refine (step_any (HC0.out.old (below_step HBr.out hV)) HSM.out (by have := HV0.out; have := HVL.out; omega) HQ.out id st (nextI st) false).mono ?_
    rintro e w' ⟨vs, he, hb, hv⟩
    obtain ⟨s1, s2, s3, s4, rfl⟩ := cat_form hv
    exact ⟨s1, s2, s3, s4, he, hb, hv⟩)
  have HSE := hid (stepM_err (C := C) (id := id) (fr := st) (st := nextI st) (b := false))
  have HSF := hid (fun (i : Nat) (y : Idx) (hi : C.idxs[i]? = some y) (hne : y.id ≠ id) => stepM_find HOK.out (fr := st) (st := nextI st) (b := false) hi hne)
  have HSTb := hid (stepM_tabs (C := C) (id := id) (fr := st) (st := nextI st) (b := false))
  have HSO := hid (stepM_ok HOK.out id st (nextI st) false).1
  generalize stepM C id st (nextI st) false = R2 at *
  clear hst
  go_cut [13, 14] from 110 to 123 (fun s9 e9 wx => ∃ bm s1 s2 s3 s4, s9 = .pointer (some ⟨bm, 0, none⟩) ∧ e9 = .int .i64 R2.2 ∧ Hid (w20.heap.size ≤ bm) ∧ Hid (wx.heap[bm]? = some (.cells #[.int .i64 R2.1.ver, .int .i64 R2.1.nxt, .slice s1 R2.1.tabs.length s2, .slice s3 R2.1.idxs.length s4] 25 (0, 0))) ∧ Hid (Below w20.heap.size w20 wx) ∧ Hid (CatN (fun k => w20.heap.size ≤ k ∧ k ≠ bm) wx [.int .i64 R2.1.ver, .int .i64 R2.1.nxt, .slice s1 R2.1.tabs.length s2, .slice s3 R2.1.idxs.length s4] R2.1))
  case first =>
    refine wp_region_noPanic ?_
    refine wp_region_held_drew (S := fun V => Hid (Below w20.heap.size w20 V)) (by kernel_rfl) (hid (Below.drew (Below.refl _ _))) (fun hHeld => ?_)
    generalize w20.drew = Wd at *
    refine tkH 0 (.agg #[.int .i64 C.ver, .int .i64 C.nxt, .slice a C.tabs.length c, .slice a' C.idxs.length c']) rfl (by kernel_rfl) (fun _ _ _ => False.elim) hHeld (Or.inl ⟨by rfl, fun W9 hW => by obtain ⟨q0, q1, q2, q3⟩ := HK20.out _ hW.out; clear hHeld hW; simp only [jA, jB, jC]; go_simp⟩) ?_
    simp only [Act.put, jA, jB, jC, jD, jE, jF]
    refine tkH 1 (.int .i64 id) rfl (by kernel_rfl) (fun _ _ _ => False.elim) hHeld (Or.inl ⟨by rfl, fun W9 hW => by clear hHeld hW; simp only [jA, jB, jC]; go_simp⟩) ?_
    simp only [Act.put, jA, jB, jC, jD, jE, jF]
    refine tkH 2 (.agg #[.int .i64 C.ver, .int .i64 C.nxt, .slice a C.tabs.length c, .slice a' C.idxs.length c']) rfl (by kernel_rfl) (fun _ _ _ => False.elim) hHeld (Or.inl ⟨by rfl, fun W9 hW => by obtain ⟨q0, q1, q2, q3⟩ := HK20.out _ hW.out; clear hHeld hW; simp only [jA, jB, jC]; go_simp⟩) ?_
    simp only [Act.put, jA, jB, jC, jD, jE, jF]
    refine tkH 3 (.int .i64 id) rfl (by kernel_rfl) (fun _ _ _ => False.elim) hHeld (Or.inl ⟨by rfl, fun W9 hW => by clear hHeld hW; simp only [jA, jB, jC]; go_simp⟩) ?_
    simp only [Act.put, jA, jB, jC, jD, jE, jF]
    refine tkH 5 (.agg #[.int .i64 C.ver, .int .i64 C.nxt, .slice a C.tabs.length c, .slice a' C.idxs.length c']) rfl (by kernel_rfl) (fun _ _ _ => False.elim) hHeld (Or.inl ⟨by rfl, fun W9 hW => by obtain ⟨q0, q1, q2, q3⟩ := HK20.out _ hW.out; clear hHeld hW; simp only [jA, jB, jC]; go_simp⟩) ?_
    simp only [Act.put, jA, jB, jC, jD, jE, jF]
    refine tkH 6 (.int .i64 id) rfl (by kernel_rfl) (fun _ _ _ => False.elim) hHeld (Or.inl ⟨by rfl, fun W9 hW => by clear hHeld hW; simp only [jA, jB, jC]; go_simp⟩) ?_
    simp only [Act.put, jA, jB, jC, jD, jE, jF]
    refine wpAnyH_ready (rs := [4, 14]) (by kernel_rfl) (by simp) (AllReadyH.cons rfl ?_ (AllReadyH.cons rfl ?_ AllReadyH.nil))
    · intro K hK
      go_simp
      have CQ := hid (HST.out _ hHeld.out)
      go_wp2_with (first | (go_at_call 33; refine CQ.out.mono ?_; rintro en wk1 ⟨rfl, hbE⟩; have HBE := hid (below_step hHeld.out hbE); clear hbE))
      clear CQ hHeld
      refine hK.out _ _ HBE (fun hHeld => ?_)
      clear hK K HBE
      try simp only [Act.put, jA, jB, jC, jD, jE, jF]
      refine wpAnyH_ready (rs := [7, 14]) (by kernel_rfl) (by simp) (AllReadyH.cons rfl ?_ (AllReadyH.cons rfl ?_ AllReadyH.nil))
      · intro K hK
        go_simp
        have CQ := hid (HST.out _ hHeld.out)
        go_wp2_with (first | (go_at_call 33; refine CQ.out.mono ?_; rintro en wk2 ⟨rfl, hbE⟩; have HBE := hid (below_step hHeld.out hbE); clear hbE))
        clear CQ hHeld
        refine hK.out _ _ HBE (fun hHeld => ?_)
        clear hK K HBE
        try simp only [Act.put, jA, jB, jC, jD, jE, jF]
        refine tkH 8 (.agg #[.int .i64 0, .int .i64 0, .string ⟨#[]⟩, .slice none 0 0, .bool false, .int .i64 st, .bool false]) rfl (by kernel_rfl) (fun _ _ _ => False.elim) hHeld (Or.inl ⟨by rfl, fun W9 hW => by clear hHeld hW; simp only [jA, jB, jC]; go_simp⟩) ?_
        simp only [Act.put, jA, jB, jC, jD, jE, jF]
        refine wpAnyH_ready (rs := [9, 14]) (by kernel_rfl) (by simp) (AllReadyH.cons rfl ?_ (AllReadyH.cons rfl ?_ AllReadyH.nil))
        · intro K hK
          go_simp
          have CQ := hid (rNext_any wk2 0 0 st ⟨#[]⟩ (.slice none 0 0) false false rfl)
          go_wp2_with (first | (go_at_call 38; refine CQ.out.mono ?_; rintro en wk3 ⟨rfl, hbE⟩; have HBE := hid (below_step hHeld.out hbE); clear hbE))
          clear CQ hHeld
          refine hK.out _ _ HBE (fun hHeld => ?_)
          clear hK K HBE
          try simp only [Act.put, jA, jB, jC, jD, jE, jF]
          refine wpAnyH_ready (rs := [10, 14]) (by kernel_rfl) (by simp) (AllReadyH.cons rfl ?_ (AllReadyH.cons rfl ?_ AllReadyH.nil))
          · intro K hK
            go_simp
            have CQ := hid (HSP.out _ hHeld.out)
            go_wp2_with (first | (go_at_call 31; refine CQ.out.mono ?_; rintro en wk4 ⟨s1, s2, s3, s4, rfl, hbE, hcE⟩; have HBE := hid (below_step hHeld.out hbE); have HCE := hid hcE; have HSV := hid hHeld.out.size; clear hcE; clear hbE))
            clear CQ hHeld
            refine hK.out _ _ HBE (fun hHeld => ?_)
            clear hK K HBE
            try simp only [Act.put, jA, jB, jC, jD, jE, jF]
            refine tkH 11 (.tuple #[.agg #[.int .i64 R2.1.ver, .int .i64 R2.1.nxt, .slice s1 R2.1.tabs.length s2, .slice s3 R2.1.idxs.length s4], .int .i64 R2.2]) rfl (by kernel_rfl) (fun _ _ _ => False.elim) hHeld (Or.inl ⟨by rfl, fun W9 hW => by clear hHeld hW; simp only [jA, jB, jC]; go_simp⟩) ?_
            simp only [Act.put, jA, jB, jC, jD, jE, jF]
            refine tkH 12 (.agg #[.int .i64 R2.1.ver, .int .i64 R2.1.nxt, .slice s1 R2.1.tabs.length s2, .slice s3 R2.1.idxs.length s4]) rfl (by kernel_rfl) (fun _ _ _ => False.elim) hHeld (Or.inl ⟨by rfl, fun W9 hW => by clear hHeld hW; simp only [jA, jB, jC]; go_simp⟩) ?_
            simp only [Act.put, jA, jB, jC, jD, jE, jF]
            refine tkH 13 (.int .i64 R2.2) rfl (by kernel_rfl) (fun _ _ _ => False.elim) hHeld (Or.inl ⟨by rfl, fun W9 hW => by clear hHeld hW; simp only [jA, jB, jC]; go_simp⟩) ?_
            simp only [Act.put, jA, jB, jC, jD, jE, jF]
            refine rdH 14 (by kernel_rfl) rfl fun K hK => ?_
            go_simp
            have hza := heap_alloc_new wk4 (.cells #[.int .i64 0, .int .i64 0, .slice none 0 0, .slice none 0 0] 25)
            have hsa : (wk4.alloc (.cells #[.int .i64 0, .int .i64 0, .slice none 0 0, .slice none 0 0] 25)).heap.size = wk4.heap.size + 1 := by simp
            have HBE := hid (hHeld.out.alloc hHeld.out.size (.cells #[.int .i64 0, .int .i64 0, .slice none 0 0, .slice none 0 0] 25))
            have HCn := hid ((Below.refl wk4.heap.size wk4).alloc (Nat.le_refl _) (.cells #[.int .i64 0, .int .i64 0, .slice none 0 0, .slice none 0 0] 25))
            have HBM := hid (show w20.heap.size ≤ wk4.heap.size from hHeld.out.size)
            clear hHeld
            refine hK.out _ _ HBE (fun hHeld => ?_)
            clear hK K HBE
            try simp only [Act.put, jA, jB, jC, jD, jE, jF]
            have hcE2 := (HCE.out.old HCn.out).mono (fun k e => (show w20.heap.size ≤ k ∧ k ≠ wk4.heap.size from by have h1 := e.1; have h2 := e.2; have h3 := HSV.out; omega))
            clear HCE HSV
            have HCE := hid hcE2
            clear hcE2
            generalize wk4.alloc (.cells #[.int .i64 0, .int .i64 0, .slice none 0 0, .slice none 0 0] 25) = wk5 at *
            generalize hbm : wk4.heap.size = bm at *
            clear hbm
            have HZA := hid hza
            clear hza HCn hsa
            refine rdH 15 (by kernel_rfl) rfl fun K hK => ?_
            rw [if_pos (by rfl)]
            refine Go.wp_store_row _ _ _ rfl bm #[.int .i64 R2.1.ver, .int .i64 R2.1.nxt, .slice s1 R2.1.tabs.length s2, .slice s3 R2.1.idxs.length s4] rfl rfl _ _ HZA.out (by kernel_rfl) rfl (by simp [Value.oneCell']) ?_
            have p1 := setRow_heap wk5 bm _ #[.int .i64 R2.1.ver, .int .i64 R2.1.nxt, .slice s1 R2.1.tabs.length s2, .slice s3 R2.1.idxs.length s4] _ _ HZA.out
            have p2 := life_setRow wk5 bm #[.int .i64 R2.1.ver, .int .i64 R2.1.nxt, .slice s1 R2.1.tabs.length s2, .slice s3 R2.1.idxs.length s4]
            generalize wk5.setRow bm #[.int .i64 R2.1.ver, .int .i64 R2.1.nxt, .slice s1 R2.1.tabs.length s2, .slice s3 R2.1.idxs.length s4] = Wz at *
            have HBW : Hid (Below w20.heap.size w20 Wz) := hid (hHeld.out.trans (p2.below hHeld.out.size (fun k e => by have e9 : k = bm := e; have := HBM.out; omega)))
            have HN1 := hid p1
            have HK1 := hid p2
            clear p1 p2 hHeld
            refine hK.out _ _ HBW (fun hHeld => ?_)
            clear hK K
            try simp only [Act.put, jA, jB, jC, jD, jE, jF]
            refine tkH 16 (.int .i64 R2.2) rfl (by kernel_rfl) (fun _ _ _ => False.elim) hHeld (Or.inl ⟨by rfl, fun W9 hW => by clear hHeld hW; simp only [jA, jB, jC]; go_simp⟩) ?_
            simp only [Act.put, jA, jB, jC, jD, jE, jF]
            refine wpAnyH_done (by kernel_rfl) (NoPanic.normal ?_) _
            clear hHeld
            go_wp2_with fail
            go_meet
            exact ⟨bm, s1, s2, s3, s4, rfl, rfl, HBM, HN1, HBW, hid (HCE.out.keep HK1.out (fun k e e9 => e.2 e9))⟩
          · intro K hK
            go_simp
            have hza := heap_alloc_new wk3 (.cells #[.int .i64 0, .int .i64 0, .slice none 0 0, .slice none 0 0] 25)
            have hsa : (wk3.alloc (.cells #[.int .i64 0, .int .i64 0, .slice none 0 0, .slice none 0 0] 25)).heap.size = wk3.heap.size + 1 := by simp
            have HBE := hid (hHeld.out.alloc hHeld.out.size (.cells #[.int .i64 0, .int .i64 0, .slice none 0 0, .slice none 0 0] 25))
            have HCn := hid ((Below.refl wk3.heap.size wk3).alloc (Nat.le_refl _) (.cells #[.int .i64 0, .int .i64 0, .slice none 0 0, .slice none 0 0] 25))
            have HBM := hid (show w20.heap.size ≤ wk3.heap.size from hHeld.out.size)
            clear hHeld
            refine hK.out _ _ HBE (fun hHeld => ?_)
            clear hK K HBE
            try simp only [Act.put, jA, jB, jC, jD, jE, jF]
            generalize wk3.alloc (.cells #[.int .i64 0, .int .i64 0, .slice none 0 0, .slice none 0 0] 25) = wk6 at *
            generalize hbm : wk3.heap.size = bm at *
            clear hbm
            have HZA := hid hza
            clear hza HCn hsa
            refine rdH 10 (by kernel_rfl) rfl fun K hK => ?_
            go_simp
            have CQ := hid (HSP.out _ hHeld.out)
            go_wp2_with (first | (go_at_call 31; refine CQ.out.mono ?_; rintro en wk7 ⟨s1, s2, s3, s4, rfl, hbE, hcE⟩; have HBE := hid (below_step hHeld.out hbE); have HCE := hid (hcE.mono (fun k e => (show w20.heap.size ≤ k ∧ k ≠ bm from by have h1 := e.1; have h2 := lt_of_block HZA.out; have h3 := hHeld.out.size; omega))); clear hcE; have hz9 := (hbE.block _ (lt_of_block HZA.out)).trans HZA.out; clear HZA; have HZA := hid hz9; clear hz9; clear hbE))
            clear CQ hHeld
            refine hK.out _ _ HBE (fun hHeld => ?_)
            clear hK K HBE
            try simp only [Act.put, jA, jB, jC, jD, jE, jF]
            refine tkH 11 (.tuple #[.agg #[.int .i64 R2.1.ver, .int .i64 R2.1.nxt, .slice s1 R2.1.tabs.length s2, .slice s3 R2.1.idxs.length s4], .int .i64 R2.2]) rfl (by kernel_rfl) (fun _ _ _ => False.elim) hHeld (Or.inl ⟨by rfl, fun W9 hW => by clear hHeld hW; simp only [jA, jB, jC]; go_simp⟩) ?_
            simp only [Act.put, jA, jB, jC, jD, jE, jF]
            refine tkH 12 (.agg #[.int .i64 R2.1.ver, .int .i64 R2.1.nxt, .slice s1 R2.1.tabs.length s2, .slice s3 R2.1.idxs.length s4]) rfl (by kernel_rfl) (fun _ _ _ => False.elim) hHeld (Or.inl ⟨by rfl, fun W9 hW => by clear hHeld hW; simp only [jA, jB, jC]; go_simp⟩) ?_
            simp only [Act.put, jA, jB, jC, jD, jE, jF]
            refine tkH 13 (.int .i64 R2.2) rfl (by kernel_rfl) (fun _ _ _ => False.elim) hHeld (Or.inl ⟨by rfl, fun W9 hW => by clear hHeld hW; simp only [jA, jB, jC]; go_simp⟩) ?_
            simp only [Act.put, jA, jB, jC, jD, jE, jF]
            refine rdH 15 (by kernel_rfl) rfl fun K hK => ?_
            rw [if_pos (by rfl)]
            refine Go.wp_store_row _ _ _ rfl bm #[.int .i64 R2.1.ver, .int .i64 R2.1.nxt, .slice s1 R2.1.tabs.length s2, .slice s3 R2.1.idxs.length s4] rfl rfl _ _ HZA.out (by kernel_rfl) rfl (by simp [Value.oneCell']) ?_
            have p1 := setRow_heap wk7 bm _ #[.int .i64 R2.1.ver, .int .i64 R2.1.nxt, .slice s1 R2.1.tabs.length s2, .slice s3 R2.1.idxs.length s4] _ _ HZA.out
            have p2 := life_setRow wk7 bm #[.int .i64 R2.1.ver, .int .i64 R2.1.nxt, .slice s1 R2.1.tabs.length s2, .slice s3 R2.1.idxs.length s4]
            generalize wk7.setRow bm #[.int .i64 R2.1.ver, .int .i64 R2.1.nxt, .slice s1 R2.1.tabs.length s2, .slice s3 R2.1.idxs.length s4] = Wz at *
            have HBW : Hid (Below w20.heap.size w20 Wz) := hid (hHeld.out.trans (p2.below hHeld.out.size (fun k e => by have e9 : k = bm := e; have := HBM.out; omega)))
            have HN1 := hid p1
            have HK1 := hid p2
            clear p1 p2 hHeld
            refine hK.out _ _ HBW (fun hHeld => ?_)
            clear hK K
            try simp only [Act.put, jA, jB, jC, jD, jE, jF]
            refine tkH 16 (.int .i64 R2.2) rfl (by kernel_rfl) (fun _ _ _ => False.elim) hHeld (Or.inl ⟨by rfl, fun W9 hW => by clear hHeld hW; simp only [jA, jB, jC]; go_simp⟩) ?_
            simp only [Act.put, jA, jB, jC, jD, jE, jF]
            refine wpAnyH_done (by kernel_rfl) (NoPanic.normal ?_) _
            clear hHeld
            go_wp2_with fail
            go_meet
            exact ⟨bm, s1, s2, s3, s4, rfl, rfl, HBM, HN1, HBW, hid (HCE.out.keep HK1.out (fun k e e9 => e.2 e9))⟩
        · intro K hK
          go_simp
          have hza := heap_alloc_new wk2 (.cells #[.int .i64 0, .int .i64 0, .slice none 0 0, .slice none 0 0] 25)
          have hsa : (wk2.alloc (.cells #[.int .i64 0, .int .i64 0, .slice none 0 0, .slice none 0 0] 25)).heap.size = wk2.heap.size + 1 := by simp
          have HBE := hid (hHeld.out.alloc hHeld.out.size (.cells #[.int .i64 0, .int .i64 0, .slice none 0 0, .slice none 0 0] 25))
          have HCn := hid ((Below.refl wk2.heap.size wk2).alloc (Nat.le_refl _) (.cells #[.int .i64 0, .int .i64 0, .slice none 0 0, .slice none 0 0] 25))
          have HBM := hid (show w20.heap.size ≤ wk2.heap.size from hHeld.out.size)
          clear hHeld
          refine hK.out _ _ HBE (fun hHeld => ?_)
          clear hK K HBE
          try simp only [Act.put, jA, jB, jC, jD, jE, jF]
          generalize wk2.alloc (.cells #[.int .i64 0, .int .i64 0, .slice none 0 0, .slice none 0 0] 25) = wk8 at *
          generalize hbm : wk2.heap.size = bm at *
          clear hbm
          have HZA := hid hza
          clear hza HCn hsa
          refine rdH 9 (by kernel_rfl) rfl fun K hK => ?_
          go_simp
          have CQ := hid (rNext_any wk8 0 0 st ⟨#[]⟩ (.slice none 0 0) false false rfl)
          go_wp2_with (first | (go_at_call 38; refine CQ.out.mono ?_; rintro en wk9 ⟨rfl, hbE⟩; have HBE := hid (below_step hHeld.out hbE); have hz9 := (hbE.block _ (lt_of_block HZA.out)).trans HZA.out; clear HZA; have HZA := hid hz9; clear hz9; clear hbE))
          clear CQ hHeld
          refine hK.out _ _ HBE (fun hHeld => ?_)
          clear hK K HBE
          try simp only [Act.put, jA, jB, jC, jD, jE, jF]
          refine rdH 10 (by kernel_rfl) rfl fun K hK => ?_
          go_simp
          have CQ := hid (HSP.out _ hHeld.out)
          go_wp2_with (first | (go_at_call 31; refine CQ.out.mono ?_; rintro en wk10 ⟨s1, s2, s3, s4, rfl, hbE, hcE⟩; have HBE := hid (below_step hHeld.out hbE); have HCE := hid (hcE.mono (fun k e => (show w20.heap.size ≤ k ∧ k ≠ bm from by have h1 := e.1; have h2 := lt_of_block HZA.out; have h3 := hHeld.out.size; omega))); clear hcE; have hz9 := (hbE.block _ (lt_of_block HZA.out)).trans HZA.out; clear HZA; have HZA := hid hz9; clear hz9; clear hbE))
          clear CQ hHeld
          refine hK.out _ _ HBE (fun hHeld => ?_)
          clear hK K HBE
          try simp only [Act.put, jA, jB, jC, jD, jE, jF]
          refine tkH 11 (.tuple #[.agg #[.int .i64 R2.1.ver, .int .i64 R2.1.nxt, .slice s1 R2.1.tabs.length s2, .slice s3 R2.1.idxs.length s4], .int .i64 R2.2]) rfl (by kernel_rfl) (fun _ _ _ => False.elim) hHeld (Or.inl ⟨by rfl, fun W9 hW => by clear hHeld hW; simp only [jA, jB, jC]; go_simp⟩) ?_
          simp only [Act.put, jA, jB, jC, jD, jE, jF]
          refine tkH 12 (.agg #[.int .i64 R2.1.ver, .int .i64 R2.1.nxt, .slice s1 R2.1.tabs.length s2, .slice s3 R2.1.idxs.length s4]) rfl (by kernel_rfl) (fun _ _ _ => False.elim) hHeld (Or.inl ⟨by rfl, fun W9 hW => by clear hHeld hW; simp only [jA, jB, jC]; go_simp⟩) ?_
          simp only [Act.put, jA, jB, jC, jD, jE, jF]
          refine tkH 13 (.int .i64 R2.2) rfl (by kernel_rfl) (fun _ _ _ => False.elim) hHeld (Or.inl ⟨by rfl, fun W9 hW => by clear hHeld hW; simp only [jA, jB, jC]; go_simp⟩) ?_
          simp only [Act.put, jA, jB, jC, jD, jE, jF]
          refine rdH 15 (by kernel_rfl) rfl fun K hK => ?_
          rw [if_pos (by rfl)]
          refine Go.wp_store_row _ _ _ rfl bm #[.int .i64 R2.1.ver, .int .i64 R2.1.nxt, .slice s1 R2.1.tabs.length s2, .slice s3 R2.1.idxs.length s4] rfl rfl _ _ HZA.out (by kernel_rfl) rfl (by simp [Value.oneCell']) ?_
          have p1 := setRow_heap wk10 bm _ #[.int .i64 R2.1.ver, .int .i64 R2.1.nxt, .slice s1 R2.1.tabs.length s2, .slice s3 R2.1.idxs.length s4] _ _ HZA.out
          have p2 := life_setRow wk10 bm #[.int .i64 R2.1.ver, .int .i64 R2.1.nxt, .slice s1 R2.1.tabs.length s2, .slice s3 R2.1.idxs.length s4]
          generalize wk10.setRow bm #[.int .i64 R2.1.ver, .int .i64 R2.1.nxt, .slice s1 R2.1.tabs.length s2, .slice s3 R2.1.idxs.length s4] = Wz at *
          have HBW : Hid (Below w20.heap.size w20 Wz) := hid (hHeld.out.trans (p2.below hHeld.out.size (fun k e => by have e9 : k = bm := e; have := HBM.out; omega)))
          have HN1 := hid p1
          have HK1 := hid p2
          clear p1 p2 hHeld
          refine hK.out _ _ HBW (fun hHeld => ?_)
          clear hK K
          try simp only [Act.put, jA, jB, jC, jD, jE, jF]
          refine tkH 16 (.int .i64 R2.2) rfl (by kernel_rfl) (fun _ _ _ => False.elim) hHeld (Or.inl ⟨by rfl, fun W9 hW => by clear hHeld hW; simp only [jA, jB, jC]; go_simp⟩) ?_
          simp only [Act.put, jA, jB, jC, jD, jE, jF]
          refine wpAnyH_done (by kernel_rfl) (NoPanic.normal ?_) _
          clear hHeld
          go_wp2_with fail
          go_meet
          exact ⟨bm, s1, s2, s3, s4, rfl, rfl, HBM, HN1, HBW, hid (HCE.out.keep HK1.out (fun k e e9 => e.2 e9))⟩
      · intro K hK
        go_simp
        have hza := heap_alloc_new wk1 (.cells #[.int .i64 0, .int .i64 0, .slice none 0 0, .slice none 0 0] 25)
        have hsa : (wk1.alloc (.cells #[.int .i64 0, .int .i64 0, .slice none 0 0, .slice none 0 0] 25)).heap.size = wk1.heap.size + 1 := by simp
        have HBE := hid (hHeld.out.alloc hHeld.out.size (.cells #[.int .i64 0, .int .i64 0, .slice none 0 0, .slice none 0 0] 25))
        have HCn := hid ((Below.refl wk1.heap.size wk1).alloc (Nat.le_refl _) (.cells #[.int .i64 0, .int .i64 0, .slice none 0 0, .slice none 0 0] 25))
        have HBM := hid (show w20.heap.size ≤ wk1.heap.size from hHeld.out.size)
        clear hHeld
        refine hK.out _ _ HBE (fun hHeld => ?_)
        clear hK K HBE
        try simp only [Act.put, jA, jB, jC, jD, jE, jF]
        generalize wk1.alloc (.cells #[.int .i64 0, .int .i64 0, .slice none 0 0, .slice none 0 0] 25) = wk11 at *
        generalize hbm : wk1.heap.size = bm at *
        clear hbm
        have HZA := hid hza
        clear hza HCn hsa
        refine rdH 7 (by kernel_rfl) rfl fun K hK => ?_
        go_simp
        have CQ := hid (HST.out _ hHeld.out)
        go_wp2_with (first | (go_at_call 33; refine CQ.out.mono ?_; rintro en wk12 ⟨rfl, hbE⟩; have HBE := hid (below_step hHeld.out hbE); have hz9 := (hbE.block _ (lt_of_block HZA.out)).trans HZA.out; clear HZA; have HZA := hid hz9; clear hz9; clear hbE))
        clear CQ hHeld
        refine hK.out _ _ HBE (fun hHeld => ?_)
        clear hK K HBE
        try simp only [Act.put, jA, jB, jC, jD, jE, jF]
        refine tkH 8 (.agg #[.int .i64 0, .int .i64 0, .string ⟨#[]⟩, .slice none 0 0, .bool false, .int .i64 st, .bool false]) rfl (by kernel_rfl) (fun _ _ _ => False.elim) hHeld (Or.inl ⟨by rfl, fun W9 hW => by clear hHeld hW; simp only [jA, jB, jC]; go_simp⟩) ?_
        simp only [Act.put, jA, jB, jC, jD, jE, jF]
        refine rdH 9 (by kernel_rfl) rfl fun K hK => ?_
        go_simp
        have CQ := hid (rNext_any wk12 0 0 st ⟨#[]⟩ (.slice none 0 0) false false rfl)
        go_wp2_with (first | (go_at_call 38; refine CQ.out.mono ?_; rintro en wk13 ⟨rfl, hbE⟩; have HBE := hid (below_step hHeld.out hbE); have hz9 := (hbE.block _ (lt_of_block HZA.out)).trans HZA.out; clear HZA; have HZA := hid hz9; clear hz9; clear hbE))
        clear CQ hHeld
        refine hK.out _ _ HBE (fun hHeld => ?_)
        clear hK K HBE
        try simp only [Act.put, jA, jB, jC, jD, jE, jF]
        refine rdH 10 (by kernel_rfl) rfl fun K hK => ?_
        go_simp
        have CQ := hid (HSP.out _ hHeld.out)
        go_wp2_with (first | (go_at_call 31; refine CQ.out.mono ?_; rintro en wk14 ⟨s1, s2, s3, s4, rfl, hbE, hcE⟩; have HBE := hid (below_step hHeld.out hbE); have HCE := hid (hcE.mono (fun k e => (show w20.heap.size ≤ k ∧ k ≠ bm from by have h1 := e.1; have h2 := lt_of_block HZA.out; have h3 := hHeld.out.size; omega))); clear hcE; have hz9 := (hbE.block _ (lt_of_block HZA.out)).trans HZA.out; clear HZA; have HZA := hid hz9; clear hz9; clear hbE))
        clear CQ hHeld
        refine hK.out _ _ HBE (fun hHeld => ?_)
        clear hK K HBE
        try simp only [Act.put, jA, jB, jC, jD, jE, jF]
        refine tkH 11 (.tuple #[.agg #[.int .i64 R2.1.ver, .int .i64 R2.1.nxt, .slice s1 R2.1.tabs.length s2, .slice s3 R2.1.idxs.length s4], .int .i64 R2.2]) rfl (by kernel_rfl) (fun _ _ _ => False.elim) hHeld (Or.inl ⟨by rfl, fun W9 hW => by clear hHeld hW; simp only [jA, jB, jC]; go_simp⟩) ?_
        simp only [Act.put, jA, jB, jC, jD, jE, jF]
        refine tkH 12 (.agg #[.int .i64 R2.1.ver, .int .i64 R2.1.nxt, .slice s1 R2.1.tabs.length s2, .slice s3 R2.1.idxs.length s4]) rfl (by kernel_rfl) (fun _ _ _ => False.elim) hHeld (Or.inl ⟨by rfl, fun W9 hW => by clear hHeld hW; simp only [jA, jB, jC]; go_simp⟩) ?_
        simp only [Act.put, jA, jB, jC, jD, jE, jF]
        refine tkH 13 (.int .i64 R2.2) rfl (by kernel_rfl) (fun _ _ _ => False.elim) hHeld (Or.inl ⟨by rfl, fun W9 hW => by clear hHeld hW; simp only [jA, jB, jC]; go_simp⟩) ?_
        simp only [Act.put, jA, jB, jC, jD, jE, jF]
        refine rdH 15 (by kernel_rfl) rfl fun K hK => ?_
        rw [if_pos (by rfl)]
        refine Go.wp_store_row _ _ _ rfl bm #[.int .i64 R2.1.ver, .int .i64 R2.1.nxt, .slice s1 R2.1.tabs.length s2, .slice s3 R2.1.idxs.length s4] rfl rfl _ _ HZA.out (by kernel_rfl) rfl (by simp [Value.oneCell']) ?_
        have p1 := setRow_heap wk14 bm _ #[.int .i64 R2.1.ver, .int .i64 R2.1.nxt, .slice s1 R2.1.tabs.length s2, .slice s3 R2.1.idxs.length s4] _ _ HZA.out
        have p2 := life_setRow wk14 bm #[.int .i64 R2.1.ver, .int .i64 R2.1.nxt, .slice s1 R2.1.tabs.length s2, .slice s3 R2.1.idxs.length s4]
        generalize wk14.setRow bm #[.int .i64 R2.1.ver, .int .i64 R2.1.nxt, .slice s1 R2.1.tabs.length s2, .slice s3 R2.1.idxs.length s4] = Wz at *
        have HBW : Hid (Below w20.heap.size w20 Wz) := hid (hHeld.out.trans (p2.below hHeld.out.size (fun k e => by have e9 : k = bm := e; have := HBM.out; omega)))
        have HN1 := hid p1
        have HK1 := hid p2
        clear p1 p2 hHeld
        refine hK.out _ _ HBW (fun hHeld => ?_)
        clear hK K
        try simp only [Act.put, jA, jB, jC, jD, jE, jF]
        refine tkH 16 (.int .i64 R2.2) rfl (by kernel_rfl) (fun _ _ _ => False.elim) hHeld (Or.inl ⟨by rfl, fun W9 hW => by clear hHeld hW; simp only [jA, jB, jC]; go_simp⟩) ?_
        simp only [Act.put, jA, jB, jC, jD, jE, jF]
        refine wpAnyH_done (by kernel_rfl) (NoPanic.normal ?_) _
        clear hHeld
        go_wp2_with fail
        go_meet
        exact ⟨bm, s1, s2, s3, s4, rfl, rfl, HBM, HN1, HBW, hid (HCE.out.keep HK1.out (fun k e e9 => e.2 e9))⟩
    · intro K hK
      go_simp
      have hza := heap_alloc_new Wd (.cells #[.int .i64 0, .int .i64 0, .slice none 0 0, .slice none 0 0] 25)
      have hsa : (Wd.alloc (.cells #[.int .i64 0, .int .i64 0, .slice none 0 0, .slice none 0 0] 25)).heap.size = Wd.heap.size + 1 := by simp
      have HBE := hid (hHeld.out.alloc hHeld.out.size (.cells #[.int .i64 0, .int .i64 0, .slice none 0 0, .slice none 0 0] 25))
      have HCn := hid ((Below.refl Wd.heap.size Wd).alloc (Nat.le_refl _) (.cells #[.int .i64 0, .int .i64 0, .slice none 0 0, .slice none 0 0] 25))
      have HBM := hid (show w20.heap.size ≤ Wd.heap.size from hHeld.out.size)
      clear hHeld
      refine hK.out _ _ HBE (fun hHeld => ?_)
      clear hK K HBE
      try simp only [Act.put, jA, jB, jC, jD, jE, jF]
      generalize Wd.alloc (.cells #[.int .i64 0, .int .i64 0, .slice none 0 0, .slice none 0 0] 25) = wk15 at *
      generalize hbm : Wd.heap.size = bm at *
      clear hbm
      have HZA := hid hza
      clear hza HCn hsa
      refine rdH 4 (by kernel_rfl) rfl fun K hK => ?_
      go_simp
      have CQ := hid (HST.out _ hHeld.out)
      go_wp2_with (first | (go_at_call 33; refine CQ.out.mono ?_; rintro en wk16 ⟨rfl, hbE⟩; have HBE := hid (below_step hHeld.out hbE); have hz9 := (hbE.block _ (lt_of_block HZA.out)).trans HZA.out; clear HZA; have HZA := hid hz9; clear hz9; clear hbE))
      clear CQ hHeld
      refine hK.out _ _ HBE (fun hHeld => ?_)
      clear hK K HBE
      try simp only [Act.put, jA, jB, jC, jD, jE, jF]
      refine rdH 7 (by kernel_rfl) rfl fun K hK => ?_
      go_simp
      have CQ := hid (HST.out _ hHeld.out)
      go_wp2_with (first | (go_at_call 33; refine CQ.out.mono ?_; rintro en wk17 ⟨rfl, hbE⟩; have HBE := hid (below_step hHeld.out hbE); have hz9 := (hbE.block _ (lt_of_block HZA.out)).trans HZA.out; clear HZA; have HZA := hid hz9; clear hz9; clear hbE))
      clear CQ hHeld
      refine hK.out _ _ HBE (fun hHeld => ?_)
      clear hK K HBE
      try simp only [Act.put, jA, jB, jC, jD, jE, jF]
      refine tkH 8 (.agg #[.int .i64 0, .int .i64 0, .string ⟨#[]⟩, .slice none 0 0, .bool false, .int .i64 st, .bool false]) rfl (by kernel_rfl) (fun _ _ _ => False.elim) hHeld (Or.inl ⟨by rfl, fun W9 hW => by clear hHeld hW; simp only [jA, jB, jC]; go_simp⟩) ?_
      simp only [Act.put, jA, jB, jC, jD, jE, jF]
      refine rdH 9 (by kernel_rfl) rfl fun K hK => ?_
      go_simp
      have CQ := hid (rNext_any wk17 0 0 st ⟨#[]⟩ (.slice none 0 0) false false rfl)
      go_wp2_with (first | (go_at_call 38; refine CQ.out.mono ?_; rintro en wk18 ⟨rfl, hbE⟩; have HBE := hid (below_step hHeld.out hbE); have hz9 := (hbE.block _ (lt_of_block HZA.out)).trans HZA.out; clear HZA; have HZA := hid hz9; clear hz9; clear hbE))
      clear CQ hHeld
      refine hK.out _ _ HBE (fun hHeld => ?_)
      clear hK K HBE
      try simp only [Act.put, jA, jB, jC, jD, jE, jF]
      refine rdH 10 (by kernel_rfl) rfl fun K hK => ?_
      go_simp
      have CQ := hid (HSP.out _ hHeld.out)
      go_wp2_with (first | (go_at_call 31; refine CQ.out.mono ?_; rintro en wk19 ⟨s1, s2, s3, s4, rfl, hbE, hcE⟩; have HBE := hid (below_step hHeld.out hbE); have HCE := hid (hcE.mono (fun k e => (show w20.heap.size ≤ k ∧ k ≠ bm from by have h1 := e.1; have h2 := lt_of_block HZA.out; have h3 := hHeld.out.size; omega))); clear hcE; have hz9 := (hbE.block _ (lt_of_block HZA.out)).trans HZA.out; clear HZA; have HZA := hid hz9; clear hz9; clear hbE))
      clear CQ hHeld
      refine hK.out _ _ HBE (fun hHeld => ?_)
      clear hK K HBE
      try simp only [Act.put, jA, jB, jC, jD, jE, jF]
      refine tkH 11 (.tuple #[.agg #[.int .i64 R2.1.ver, .int .i64 R2.1.nxt, .slice s1 R2.1.tabs.length s2, .slice s3 R2.1.idxs.length s4], .int .i64 R2.2]) rfl (by kernel_rfl) (fun _ _ _ => False.elim) hHeld (Or.inl ⟨by rfl, fun W9 hW => by clear hHeld hW; simp only [jA, jB, jC]; go_simp⟩) ?_
      simp only [Act.put, jA, jB, jC, jD, jE, jF]
      refine tkH 12 (.agg #[.int .i64 R2.1.ver, .int .i64 R2.1.nxt, .slice s1 R2.1.tabs.length s2, .slice s3 R2.1.idxs.length s4]) rfl (by kernel_rfl) (fun _ _ _ => False.elim) hHeld (Or.inl ⟨by rfl, fun W9 hW => by clear hHeld hW; simp only [jA, jB, jC]; go_simp⟩) ?_
      simp only [Act.put, jA, jB, jC, jD, jE, jF]
      refine tkH 13 (.int .i64 R2.2) rfl (by kernel_rfl) (fun _ _ _ => False.elim) hHeld (Or.inl ⟨by rfl, fun W9 hW => by clear hHeld hW; simp only [jA, jB, jC]; go_simp⟩) ?_
      simp only [Act.put, jA, jB, jC, jD, jE, jF]
      refine rdH 15 (by kernel_rfl) rfl fun K hK => ?_
      rw [if_pos (by rfl)]
      refine Go.wp_store_row _ _ _ rfl bm #[.int .i64 R2.1.ver, .int .i64 R2.1.nxt, .slice s1 R2.1.tabs.length s2, .slice s3 R2.1.idxs.length s4] rfl rfl _ _ HZA.out (by kernel_rfl) rfl (by simp [Value.oneCell']) ?_
      have p1 := setRow_heap wk19 bm _ #[.int .i64 R2.1.ver, .int .i64 R2.1.nxt, .slice s1 R2.1.tabs.length s2, .slice s3 R2.1.idxs.length s4] _ _ HZA.out
      have p2 := life_setRow wk19 bm #[.int .i64 R2.1.ver, .int .i64 R2.1.nxt, .slice s1 R2.1.tabs.length s2, .slice s3 R2.1.idxs.length s4]
      generalize wk19.setRow bm #[.int .i64 R2.1.ver, .int .i64 R2.1.nxt, .slice s1 R2.1.tabs.length s2, .slice s3 R2.1.idxs.length s4] = Wz at *
      have HBW : Hid (Below w20.heap.size w20 Wz) := hid (hHeld.out.trans (p2.below hHeld.out.size (fun k e => by have e9 : k = bm := e; have := HBM.out; omega)))
      have HN1 := hid p1
      have HK1 := hid p2
      clear p1 p2 hHeld
      refine hK.out _ _ HBW (fun hHeld => ?_)
      clear hK K
      try simp only [Act.put, jA, jB, jC, jD, jE, jF]
      refine tkH 16 (.int .i64 R2.2) rfl (by kernel_rfl) (fun _ _ _ => False.elim) hHeld (Or.inl ⟨by rfl, fun W9 hW => by clear hHeld hW; simp only [jA, jB, jC]; go_simp⟩) ?_
      simp only [Act.put, jA, jB, jC, jD, jE, jF]
      refine wpAnyH_done (by kernel_rfl) (NoPanic.normal ?_) _
      clear hHeld
      go_wp2_with fail
      go_meet
      exact ⟨bm, s1, s2, s3, s4, rfl, rfl, HBM, HN1, HBW, hid (HCE.out.keep HK1.out (fun k e e9 => e.2 e9))⟩
  case rest =>
  obtain ⟨bm, s1, s2, s3, s4, rfl, rfl, HBM, HM, HXX, HCM⟩ := hcut
  generalize wc = w21 at *
  have HZ21 := hid ((HXX.out.block _ (lt_of_block HZr.out)).trans HZr.out)
  have HB21 := hid (below_step HBr.out HXX.out)
  have HC21 := hid (HC0.out.old HB21.out)
  have HLT := hid (show w20.heap.size ≤ bm from HBM.out)
  clear HXX HK20 HCw20 HST HSP
  have z0 := cell_in HZ21.out 0 _ rfl
  have z1 := cell_in HZ21.out 1 _ rfl
  have z2 := cell_in HZ21.out 2 _ rfl
  have z3 := cell_in HZ21.out 3 _ rfl
  have n0 := cell_in HM.out 0 _ rfl
  have n1 := cell_in HM.out 1 _ rfl
  have n2 := cell_in HM.out 2 _ rfl
  have n3 := cell_in HM.out 3 _ rfl
  by_cases hr : R2.2 = 0
  case neg =>
    have HMC : Hid (CatN (fun k => w20.heap.size ≤ k ∧ k ≠ bm) w21 [.int .i64 R2.1.ver, .int .i64 R2.1.nxt, .slice s1 R2.1.tabs.length s2, .slice s3 R2.1.idxs.length s4] C) := hid (by have h := HCM.out; rw [HSE.out hr] at h ⊢; exact h)
    have CE := hid (cat_same HMC.out HC21.out)
    go_wp2_with (first | (go_at_call 18; refine CE.out.mono ?_; rintro en w22 ⟨rfl, hb22⟩; have HB22 := hid (below_step HB21.out hb22); clear hb22))
    go_ret
    exact ⟨rfl, HB22.out⟩
  case pos =>
  have HR := hid hr
  obtain ⟨vt, vi, e, hlt9, hli9, -, -⟩ := HCM.out
  injection e with e1 e; injection e with e2 e; injection e with e3 e; injection e with e4 e
  subst e3 e4
  obtain ⟨vt2, vi2, e, hlt0, hli0, -, -⟩ := HC21.out
  injection e with e1 e; injection e with e2 e; injection e with e3 e; injection e with e4 e
  subst e3 e4
  rw [HSTb.out] at hlt9
  obtain ⟨ko, kc, e5, hkc, -, hix⟩ := ix_cells hli0
  injection e5 with e6 e7 e8
  subst e6 e8
  have HIX := hid hix
  have HTM := hid hlt9
  have HTC := hid hlt0
  have hkm : C.idxs.length ≤ 10 := HOK.out.len.2
  have HKM := hid hkm
  clear e e1 e2 e7 hkc hix hlt9 hli9 hlt0 hli0 hkm
  go_wp2_with fail
  clear z0 z1 z2 z3 n0 n1 n2 n3 hr
  go_loopw [15] (fun j wr => ∃ i : Nat, i ≤ C.idxs.length ∧ j = .int .i64 (i : Int) ∧ Hid (Below w21.heap.size w21 wr)) (fun j _ => C.idxs.length - (intOf j).toNat)
  case atStart => exact ⟨0, by omega, rfl, hid (Below.refl _ _)⟩
  case round =>
  obtain ⟨i, hi, rfl, HBR⟩ := hrel
  have HZW := hid ((HBR.out.block _ (lt_of_block HZ21.out)).trans HZ21.out)
  have HMW := hid ((HBR.out.block _ (lt_of_block HM.out)).trans HM.out)
  have z0 := cell_in HZW.out 0 _ rfl
  have z1 := cell_in HZW.out 1 _ rfl
  have z2 := cell_in HZW.out 2 _ rfl
  have z3 := cell_in HZW.out 3 _ rfl
  have n0 := cell_in HMW.out 0 _ rfl
  have n1 := cell_in HMW.out 1 _ rfl
  have n2 := cell_in HMW.out 2 _ rfl
  have n3 := cell_in HMW.out 3 _ rfl
  by_cases hlt : i < C.idxs.length
  case neg =>
    obtain rfl : i = C.idxs.length := by omega
    have CL := hid (sameTab_any _ (HTM.out.oldT HBR.out) (HTC.out.oldT HBR.out))
    rw [HSTb.out] at n2
    go_wp2_with (first | (go_at_call 37; refine CL.out.mono ?_; rintro en w22 ⟨rfl, hb22⟩; have HB22 := hid (below_step (below_step HB21.out HBR.out) hb22); clear hb22))
    go_ret
    exact ⟨rfl, HB22.out⟩
  case pos =>
  obtain ⟨u, hu⟩ : ∃ u, C.idxs[i]? = some u := ⟨_, List.getElem?_eq_getElem hlt⟩
  obtain ⟨b, off, ub, uc, rfl, hun, g0, g1, g2, g3, g4, g5, g6⟩ := HIX.out i u hu
  have HUN := hid (hun.old HBR.out)
  have HU := hid hu
  have HG : Hid (∀ V, Below wr.heap.size wr V → V.cell? ⟨b, off + i * 7, none⟩ = some (.int .i64 u.id) ∧ V.cell? ⟨b, off + i * 7 + 1, none⟩ = some (.int .i64 u.table) ∧ V.cell? ⟨b, off + i * 7 + 2, none⟩ = some (.string ⟨u.name.toArray⟩) ∧ V.cell? ⟨b, off + i * 7 + 3, none⟩ = some (.slice ub u.cols.length uc) ∧ V.cell? ⟨b, off + i * 7 + 4, none⟩ = some (.bool u.uniq) ∧ V.cell? ⟨b, off + i * 7 + 5, none⟩ = some (.int .i64 u.state) ∧ V.cell? ⟨b, off + i * 7 + 6, none⟩ = some (.bool u.bad)) := hid (fun V hV => by
    have hb9 := HBR.out.trans (hV.mono HBR.out.size)
    exact ⟨(hb9.cell (block_cell g0)).trans g0, (hb9.cell (block_cell g1)).trans g1, (hb9.cell (block_cell g2)).trans g2, (hb9.cell (block_cell g3)).trans g3, (hb9.cell (block_cell g4)).trans g4, (hb9.cell (block_cell g5)).trans g5, (hb9.cell (block_cell g6)).trans g6⟩)
  clear hun g0 g1 g2 g3 g4 g5 g6 hu
  go_upto_region 15 with fail
  clear z0 z1 z2 z3 n0 n1 n2 n3
  have HCw : Hid (Below wr.heap.size wr wr) := hid (Below.refl _ _)
  have HKR : Hid (∀ V, Below wr.heap.size wr V → V.cell? ⟨W.heap.size, 0, none⟩ = some (.int .i64 C.ver) ∧ V.cell? ⟨W.heap.size, 1, none⟩ = some (.int .i64 C.nxt) ∧ V.cell? ⟨W.heap.size, 2, none⟩ = some (.slice a C.tabs.length c) ∧ V.cell? ⟨W.heap.size, 3, none⟩ = some (.slice (some ⟨b, off, none⟩) C.idxs.length c') ∧ V.cell? ⟨bm, 0, none⟩ = some (.int .i64 R2.1.ver) ∧ V.cell? ⟨bm, 1, none⟩ = some (.int .i64 R2.1.nxt) ∧ V.cell? ⟨bm, 2, none⟩ = some (.slice s1 R2.1.tabs.length s2) ∧ V.cell? ⟨bm, 3, none⟩ = some (.slice s3 R2.1.idxs.length s4)) := hid (fun V hV => by
    have hHZW := (hV.block _ (lt_of_block HZW.out)).trans HZW.out
    have hHMW := (hV.block _ (lt_of_block HMW.out)).trans HMW.out
    exact ⟨cell_in hHZW 0 _ rfl, cell_in hHZW 1 _ rfl, cell_in hHZW 2 _ rfl, cell_in hHZW 3 _ rfl, cell_in hHMW 0 _ rfl, cell_in hHMW 1 _ rfl, cell_in hHMW 2 _ rfl, cell_in hHMW 3 _ rfl⟩)
  have HCMw := hid (HCM.out.old HBR.out)
  have HYN := hid (fun (y : Idx) (by9 : Bool) (h : ∀ x, R2.1.idxs.find? (fun q => decide (q.name = u.name)) = some x → y = x ∧ by9 = true) (hne : u.id ≠ id) => h u (HSF.out i u HU.out hne))
  go_cut [16, 17] from 136 to 146 (fun s9 e9 wx => ∃ (bq : Nat) (y : Idx) (ya : Option Addr) (yc : Nat) (bb : Bool), s9 = .pointer (some ⟨bq, 0, none⟩) ∧ e9 = .bool bb ∧ Hid (wr.heap.size ≤ bq) ∧ Hid (wx.heap[bq]? = some (.cells #[.int .i64 y.id, .int .i64 y.table, .string ⟨y.name.toArray⟩, .slice ya y.cols.length yc, .bool y.uniq, .int .i64 y.state, .bool y.bad] 37 (0, 0))) ∧ Hid (Below wr.heap.size wr wx) ∧ Hid (IdxN (fun k => k ≠ bq) wx [.int .i64 y.id, .int .i64 y.table, .string ⟨y.name.toArray⟩, .slice ya y.cols.length yc, .bool y.uniq, .int .i64 y.state, .bool y.bad] y) ∧ Hid (u.id ≠ id → y = u ∧ bb = true))
  case first =>
    refine wp_region_noPanic ?_
    refine wp_region_held_drew (S := fun V => Hid (Below wr.heap.size wr V)) (by kernel_rfl) (hid (Below.drew (Below.refl _ _))) (fun hHeld => ?_)
    generalize wr.drew = Wd at *
    refine tkH 0 (.agg #[.int .i64 R2.1.ver, .int .i64 R2.1.nxt, .slice s1 R2.1.tabs.length s2, .slice s3 R2.1.idxs.length s4]) rfl (by kernel_rfl) (fun _ _ _ => False.elim) hHeld (Or.inl ⟨by rfl, fun W9 hW => by obtain ⟨q0, q1, q2, q3, q4, q5, q6, q7⟩ := HKR.out _ hW.out; obtain ⟨g0, g1, g2, g3, g4, g5, g6⟩ := HG.out _ hW.out; clear hHeld hW; simp only [jA, jB, jC]; go_simp⟩) ?_
    simp only [Act.put, jA, jB, jC, jD, jE, jF]
    refine tkH 1 (.pointer (some ⟨W.heap.size, 3, none⟩)) rfl (by kernel_rfl) (fun _ _ _ => False.elim) hHeld (Or.inl ⟨by rfl, fun W9 hW => by clear hHeld hW; simp only [jA, jB, jC]; go_simp⟩) ?_
    simp only [Act.put, jA, jB, jC, jD, jE, jF]
    refine tkH 2 (.slice (some ⟨b, off, none⟩) C.idxs.length c') rfl (by kernel_rfl) (fun _ _ _ => False.elim) hHeld (Or.inl ⟨by rfl, fun W9 hW => by obtain ⟨q0, q1, q2, q3, q4, q5, q6, q7⟩ := HKR.out _ hW.out; obtain ⟨g0, g1, g2, g3, g4, g5, g6⟩ := HG.out _ hW.out; clear hHeld hW; simp only [jA, jB, jC]; go_simp⟩) ?_
    simp only [Act.put, jA, jB, jC, jD, jE, jF]
    refine tkH 3 (.int .i64 (i : Int)) rfl (by kernel_rfl) (fun _ _ _ => False.elim) hHeld (Or.inl ⟨by rfl, fun W9 hW => by clear hHeld hW; simp only [jA, jB, jC]; go_simp⟩) ?_
    simp only [Act.put, jA, jB, jC, jD, jE, jF]
    refine tkH 4 (.pointer (some ⟨b, off + i * 7, none⟩)) rfl (by kernel_rfl) (fun _ _ _ => False.elim) hHeld (Or.inl ⟨by rfl, fun W9 hW => by have hlt9 := hlt; clear hHeld hW; simp only [jA, jB, jC]; go_simp⟩) ?_
    simp only [Act.put, jA, jB, jC, jD, jE, jF]
    refine tkH 5 (.pointer (some ⟨b, off + i * 7 + 2, none⟩)) rfl (by kernel_rfl) (fun _ _ _ => False.elim) hHeld (Or.inl ⟨by rfl, fun W9 hW => by clear hHeld hW; simp only [jA, jB, jC]; go_simp⟩) ?_
    simp only [Act.put, jA, jB, jC, jD, jE, jF]
    refine tkH 6 (.string ⟨u.name.toArray⟩) rfl (by kernel_rfl) (fun _ _ _ => False.elim) hHeld (Or.inl ⟨by rfl, fun W9 hW => by obtain ⟨q0, q1, q2, q3, q4, q5, q6, q7⟩ := HKR.out _ hW.out; obtain ⟨g0, g1, g2, g3, g4, g5, g6⟩ := HG.out _ hW.out; clear hHeld hW; simp only [jA, jB, jC]; go_simp⟩) ?_
    simp only [Act.put, jA, jB, jC, jD, jE, jF]
    refine wpAnyH_ready (rs := [7, 11]) (by kernel_rfl) (by simp) (AllReadyH.cons rfl ?_ (AllReadyH.cons rfl ?_ AllReadyH.nil))
    · intro K hK
      go_simp
      have CQ := hid (oth_any (HCMw.out.old hHeld.out) HSO.out u.name)
      go_wp2_with (first | (go_at_call 21; refine CQ.out.mono ?_; rintro en wk1 ⟨y, ya, yc, bb, rfl, hbE, hyE, hnE⟩; have HBE := hid (below_step hHeld.out hbE); have HYE := hid hyE; have HNE := hid (HYN.out y bb hnE); clear hbE hyE hnE))
      clear CQ hHeld
      refine hK.out _ _ HBE (fun hHeld => ?_)
      clear hK K HBE
      try simp only [Act.put, jA, jB, jC, jD, jE, jF]
      refine tkH 8 (.tuple #[.agg #[.int .i64 y.id, .int .i64 y.table, .string ⟨y.name.toArray⟩, .slice ya y.cols.length yc, .bool y.uniq, .int .i64 y.state, .bool y.bad], .bool bb]) rfl (by kernel_rfl) (fun _ _ _ => False.elim) hHeld (Or.inl ⟨by rfl, fun W9 hW => by clear hHeld hW; simp only [jA, jB, jC]; go_simp⟩) ?_
      simp only [Act.put, jA, jB, jC, jD, jE, jF]
      refine tkH 9 (.agg #[.int .i64 y.id, .int .i64 y.table, .string ⟨y.name.toArray⟩, .slice ya y.cols.length yc, .bool y.uniq, .int .i64 y.state, .bool y.bad]) rfl (by kernel_rfl) (fun _ _ _ => False.elim) hHeld (Or.inl ⟨by rfl, fun W9 hW => by clear hHeld hW; simp only [jA, jB, jC]; go_simp⟩) ?_
      simp only [Act.put, jA, jB, jC, jD, jE, jF]
      refine tkH 10 (.bool bb) rfl (by kernel_rfl) (fun _ _ _ => False.elim) hHeld (Or.inl ⟨by rfl, fun W9 hW => by clear hHeld hW; simp only [jA, jB, jC]; go_simp⟩) ?_
      simp only [Act.put, jA, jB, jC, jD, jE, jF]
      refine rdH 11 (by kernel_rfl) rfl fun K hK => ?_
      go_simp
      have hza := heap_alloc_new wk1 (.cells #[.int .i64 0, .int .i64 0, .string ⟨#[]⟩, .slice none 0 0, .bool false, .int .i64 0, .bool false] 37)
      have HBE := hid (hHeld.out.alloc hHeld.out.size (.cells #[.int .i64 0, .int .i64 0, .string ⟨#[]⟩, .slice none 0 0, .bool false, .int .i64 0, .bool false] 37))
      have HCn := hid ((Below.refl wk1.heap.size wk1).alloc (Nat.le_refl _) (.cells #[.int .i64 0, .int .i64 0, .string ⟨#[]⟩, .slice none 0 0, .bool false, .int .i64 0, .bool false] 37))
      have HBQ := hid (show wr.heap.size ≤ wk1.heap.size from hHeld.out.size)
      clear hHeld
      refine hK.out _ _ HBE (fun hHeld => ?_)
      clear hK K HBE
      try simp only [Act.put, jA, jB, jC, jD, jE, jF]
      have hyE2 := (HYE.out.old HCn.out).mono (fun k e => (show k ≠ wk1.heap.size from by have h1 := e.2; omega))
      clear HYE
      have HYE := hid hyE2
      clear hyE2
      generalize wk1.alloc (.cells #[.int .i64 0, .int .i64 0, .string ⟨#[]⟩, .slice none 0 0, .bool false, .int .i64 0, .bool false] 37) = wk2 at *
      generalize hbq : wk1.heap.size = bq at *
      clear hbq
      have HZA := hid hza
      clear hza HCn
      refine rdH 12 (by kernel_rfl) rfl fun K hK => ?_
      rw [if_pos (by rfl)]
      refine Go.wp_store_row _ _ _ rfl bq #[.int .i64 y.id, .int .i64 y.table, .string ⟨y.name.toArray⟩, .slice ya y.cols.length yc, .bool y.uniq, .int .i64 y.state, .bool y.bad] rfl rfl _ _ HZA.out (by kernel_rfl) rfl (by simp [Value.oneCell']) ?_
      have p1 := setRow_heap wk2 bq _ #[.int .i64 y.id, .int .i64 y.table, .string ⟨y.name.toArray⟩, .slice ya y.cols.length yc, .bool y.uniq, .int .i64 y.state, .bool y.bad] _ _ HZA.out
      have p2 := life_setRow wk2 bq #[.int .i64 y.id, .int .i64 y.table, .string ⟨y.name.toArray⟩, .slice ya y.cols.length yc, .bool y.uniq, .int .i64 y.state, .bool y.bad]
      generalize wk2.setRow bq #[.int .i64 y.id, .int .i64 y.table, .string ⟨y.name.toArray⟩, .slice ya y.cols.length yc, .bool y.uniq, .int .i64 y.state, .bool y.bad] = Wz at *
      have HBW : Hid (Below wr.heap.size wr Wz) := hid (hHeld.out.trans (p2.below hHeld.out.size (fun k e => by have e9 : k = bq := e; have := HBQ.out; omega)))
      have HN1 := hid p1
      have HK1 := hid p2
      clear p1 p2 hHeld
      refine hK.out _ _ HBW (fun hHeld => ?_)
      clear hK K
      try simp only [Act.put, jA, jB, jC, jD, jE, jF]
      refine tkH 13 (.bool bb) rfl (by kernel_rfl) (fun _ _ _ => False.elim) hHeld (Or.inl ⟨by rfl, fun W9 hW => by clear hHeld hW; simp only [jA, jB, jC]; go_simp⟩) ?_
      simp only [Act.put, jA, jB, jC, jD, jE, jF]
      refine wpAnyH_done (by kernel_rfl) (NoPanic.normal ?_) _
      clear hHeld
      go_wp2_with fail
      go_meet
      exact ⟨bq, y, ya, yc, bb, rfl, rfl, HBQ, HN1, HBW, hid (HYE.out.keep HK1.out (fun k e e9 => e e9)), HNE⟩
    · intro K hK
      go_simp
      have hza := heap_alloc_new Wd (.cells #[.int .i64 0, .int .i64 0, .string ⟨#[]⟩, .slice none 0 0, .bool false, .int .i64 0, .bool false] 37)
      have HBE := hid (hHeld.out.alloc hHeld.out.size (.cells #[.int .i64 0, .int .i64 0, .string ⟨#[]⟩, .slice none 0 0, .bool false, .int .i64 0, .bool false] 37))
      have HCn := hid ((Below.refl Wd.heap.size Wd).alloc (Nat.le_refl _) (.cells #[.int .i64 0, .int .i64 0, .string ⟨#[]⟩, .slice none 0 0, .bool false, .int .i64 0, .bool false] 37))
      have HBQ := hid (show wr.heap.size ≤ Wd.heap.size from hHeld.out.size)
      clear hHeld
      refine hK.out _ _ HBE (fun hHeld => ?_)
      clear hK K HBE
      try simp only [Act.put, jA, jB, jC, jD, jE, jF]
      generalize Wd.alloc (.cells #[.int .i64 0, .int .i64 0, .string ⟨#[]⟩, .slice none 0 0, .bool false, .int .i64 0, .bool false] 37) = wk3 at *
      generalize hbq : Wd.heap.size = bq at *
      clear hbq
      have HZA := hid hza
      clear hza HCn
      refine rdH 7 (by kernel_rfl) rfl fun K hK => ?_
      go_simp
      have CQ := hid (oth_any (HCMw.out.old hHeld.out) HSO.out u.name)
      go_wp2_with (first | (go_at_call 21; refine CQ.out.mono ?_; rintro en wk4 ⟨y, ya, yc, bb, rfl, hbE, hyE, hnE⟩; have HBE := hid (below_step hHeld.out hbE); have hz9 := (hbE.block _ (lt_of_block HZA.out)).trans HZA.out; have hyE := hyE.mono (fun k e => (show k ≠ bq from by have h1 := e.1; have h2 := lt_of_block HZA.out; omega)); clear HZA; have HZA := hid hz9; clear hz9; have HYE := hid hyE; have HNE := hid (HYN.out y bb hnE); clear hbE hyE hnE))
      clear CQ hHeld
      refine hK.out _ _ HBE (fun hHeld => ?_)
      clear hK K HBE
      try simp only [Act.put, jA, jB, jC, jD, jE, jF]
      refine tkH 8 (.tuple #[.agg #[.int .i64 y.id, .int .i64 y.table, .string ⟨y.name.toArray⟩, .slice ya y.cols.length yc, .bool y.uniq, .int .i64 y.state, .bool y.bad], .bool bb]) rfl (by kernel_rfl) (fun _ _ _ => False.elim) hHeld (Or.inl ⟨by rfl, fun W9 hW => by clear hHeld hW; simp only [jA, jB, jC]; go_simp⟩) ?_
      simp only [Act.put, jA, jB, jC, jD, jE, jF]
      refine tkH 9 (.agg #[.int .i64 y.id, .int .i64 y.table, .string ⟨y.name.toArray⟩, .slice ya y.cols.length yc, .bool y.uniq, .int .i64 y.state, .bool y.bad]) rfl (by kernel_rfl) (fun _ _ _ => False.elim) hHeld (Or.inl ⟨by rfl, fun W9 hW => by clear hHeld hW; simp only [jA, jB, jC]; go_simp⟩) ?_
      simp only [Act.put, jA, jB, jC, jD, jE, jF]
      refine tkH 10 (.bool bb) rfl (by kernel_rfl) (fun _ _ _ => False.elim) hHeld (Or.inl ⟨by rfl, fun W9 hW => by clear hHeld hW; simp only [jA, jB, jC]; go_simp⟩) ?_
      simp only [Act.put, jA, jB, jC, jD, jE, jF]
      refine rdH 12 (by kernel_rfl) rfl fun K hK => ?_
      rw [if_pos (by rfl)]
      refine Go.wp_store_row _ _ _ rfl bq #[.int .i64 y.id, .int .i64 y.table, .string ⟨y.name.toArray⟩, .slice ya y.cols.length yc, .bool y.uniq, .int .i64 y.state, .bool y.bad] rfl rfl _ _ HZA.out (by kernel_rfl) rfl (by simp [Value.oneCell']) ?_
      have p1 := setRow_heap wk4 bq _ #[.int .i64 y.id, .int .i64 y.table, .string ⟨y.name.toArray⟩, .slice ya y.cols.length yc, .bool y.uniq, .int .i64 y.state, .bool y.bad] _ _ HZA.out
      have p2 := life_setRow wk4 bq #[.int .i64 y.id, .int .i64 y.table, .string ⟨y.name.toArray⟩, .slice ya y.cols.length yc, .bool y.uniq, .int .i64 y.state, .bool y.bad]
      generalize wk4.setRow bq #[.int .i64 y.id, .int .i64 y.table, .string ⟨y.name.toArray⟩, .slice ya y.cols.length yc, .bool y.uniq, .int .i64 y.state, .bool y.bad] = Wz at *
      have HBW : Hid (Below wr.heap.size wr Wz) := hid (hHeld.out.trans (p2.below hHeld.out.size (fun k e => by have e9 : k = bq := e; have := HBQ.out; omega)))
      have HN1 := hid p1
      have HK1 := hid p2
      clear p1 p2 hHeld
      refine hK.out _ _ HBW (fun hHeld => ?_)
      clear hK K
      try simp only [Act.put, jA, jB, jC, jD, jE, jF]
      refine tkH 13 (.bool bb) rfl (by kernel_rfl) (fun _ _ _ => False.elim) hHeld (Or.inl ⟨by rfl, fun W9 hW => by clear hHeld hW; simp only [jA, jB, jC]; go_simp⟩) ?_
      simp only [Act.put, jA, jB, jC, jD, jE, jF]
      refine wpAnyH_done (by kernel_rfl) (NoPanic.normal ?_) _
      clear hHeld
      go_wp2_with fail
      go_meet
      exact ⟨bq, y, ya, yc, bb, rfl, rfl, HBQ, HN1, HBW, hid (HYE.out.keep HK1.out (fun k e e9 => e e9)), HNE⟩
  case rest =>
  obtain ⟨bq, y, ya, yc, bb, rfl, rfl, HBQ, HYQ, HX22, HYN2, HNE⟩ := hcut
  generalize wc = w22 at *
  have HCw22 : Hid (Below w22.heap.size w22 w22) := hid (Below.refl _ _)
  have HZ22 := hid ((HX22.out.block _ (lt_of_block HZW.out)).trans HZW.out)
  have HB22 := hid (HBR.out.trans (HX22.out.mono HBR.out.size))
  obtain ⟨g0, g1, g2, g3, g4, g5, g6⟩ := HG.out _ HX22.out
  have HGX := hid (show w22.cell? ⟨b, off + i * 7, none⟩ = some (.int .i64 u.id) ∧ w22.cell? ⟨b, off + i * 7 + 1, none⟩ = some (.int .i64 u.table) ∧ w22.cell? ⟨b, off + i * 7 + 2, none⟩ = some (.string ⟨u.name.toArray⟩) ∧ w22.cell? ⟨b, off + i * 7 + 3, none⟩ = some (.slice ub u.cols.length uc) ∧ w22.cell? ⟨b, off + i * 7 + 4, none⟩ = some (.bool u.uniq) ∧ w22.cell? ⟨b, off + i * 7 + 5, none⟩ = some (.int .i64 u.state) ∧ w22.cell? ⟨b, off + i * 7 + 6, none⟩ = some (.bool u.bad) from ⟨g0, g1, g2, g3, g4, g5, g6⟩)
  have z3 := cell_in HZ22.out 3 _ rfl
  have y0 := cell_in HYQ.out 0 _ rfl
  clear HKR HG
  go_upto_region 16 with fail
  by_cases he : u.id = id
  case pos =>
    have hkm9 := HKM.out
    go_quiet (fail)
    go_wp2_with fail
    go_roundw
    case rel => exact ⟨i + 1, by omega, by go_num, hid (by first | exact HB22.out | exact HB22.out.drew | exact HB22.out.trans ((below_drewN _ _).mono HB22.out.size))⟩
    case measure => simp [intOf]; omega
  case neg =>
  obtain ⟨rfl, rfl⟩ := HNE.out he
  clear g0 g1 g2 g3 g4 g5 g6 z3 y0
  have HUN2 := hid (HUN.out.old HX22.out)
  have HK22 : Hid (∀ V, Below w22.heap.size w22 V → V.cell? ⟨W.heap.size, 3, none⟩ = some (.slice (some ⟨b, off, none⟩) C.idxs.length c') ∧ V.cell? ⟨bq, 0, none⟩ = some (.int .i64 y.id) ∧ V.cell? ⟨bq, 1, none⟩ = some (.int .i64 y.table) ∧ V.cell? ⟨bq, 2, none⟩ = some (.string ⟨y.name.toArray⟩) ∧ V.cell? ⟨bq, 3, none⟩ = some (.slice ya y.cols.length yc) ∧ V.cell? ⟨bq, 4, none⟩ = some (.bool y.uniq) ∧ V.cell? ⟨bq, 5, none⟩ = some (.int .i64 y.state) ∧ V.cell? ⟨bq, 6, none⟩ = some (.bool y.bad) ∧ V.cell? ⟨b, off + i * 7, none⟩ = some (.int .i64 y.id) ∧ V.cell? ⟨b, off + i * 7 + 1, none⟩ = some (.int .i64 y.table) ∧ V.cell? ⟨b, off + i * 7 + 2, none⟩ = some (.string ⟨y.name.toArray⟩) ∧ V.cell? ⟨b, off + i * 7 + 3, none⟩ = some (.slice ub y.cols.length uc) ∧ V.cell? ⟨b, off + i * 7 + 4, none⟩ = some (.bool y.uniq) ∧ V.cell? ⟨b, off + i * 7 + 5, none⟩ = some (.int .i64 y.state) ∧ V.cell? ⟨b, off + i * 7 + 6, none⟩ = some (.bool y.bad)) := hid (fun V hV => by
    have h1 := (hV.block _ (lt_of_block HZ22.out)).trans HZ22.out
    have h2 := (hV.block _ (lt_of_block HYQ.out)).trans HYQ.out
    obtain ⟨g0, g1, g2, g3, g4, g5, g6⟩ := HGX.out
    exact ⟨cell_in h1 3 _ rfl, cell_in h2 0 _ rfl, cell_in h2 1 _ rfl, cell_in h2 2 _ rfl, cell_in h2 3 _ rfl, cell_in h2 4 _ rfl, cell_in h2 5 _ rfl, cell_in h2 6 _ rfl, (hV.cell (block_cell g0)).trans g0, (hV.cell (block_cell g1)).trans g1, (hV.cell (block_cell g2)).trans g2, (hV.cell (block_cell g3)).trans g3, (hV.cell (block_cell g4)).trans g4, (hV.cell (block_cell g5)).trans g5, (hV.cell (block_cell g6)).trans g6⟩)
  refine wp_region_noPanic ?_
  refine wp_region_held_drew (S := fun V => Hid (Below w22.heap.size w22 V)) (by kernel_rfl) (hid (Below.drew (Below.refl _ _))) (fun hHeld => ?_)
  generalize w22.drew = Wd at *
  refine tkH 0 (.pointer (some ⟨W.heap.size, 3, none⟩)) rfl (by kernel_rfl) (fun _ _ _ => False.elim) hHeld (Or.inl ⟨by rfl, fun W9 hW => by clear hHeld hW; simp only [jA, jB, jC]; go_simp⟩) ?_
  simp only [Act.put, jA, jB, jC, jD, jE, jF]
  refine tkH 1 (.slice (some ⟨b, off, none⟩) C.idxs.length c') rfl (by kernel_rfl) (fun _ _ _ => False.elim) hHeld (Or.inl ⟨by rfl, fun W9 hW => by obtain ⟨q0, q1, q2, q3, q4, q5, q6, q7, q8, q9, q10, q11, q12, q13, q14⟩ := HK22.out _ (below_step HCw22.out hW.out); clear hHeld hW; simp only [jA, jB, jC]; go_simp⟩) ?_
  simp only [Act.put, jA, jB, jC, jD, jE, jF]
  refine tkH 2 (.int .i64 (i : Int)) rfl (by kernel_rfl) (fun _ _ _ => False.elim) hHeld (Or.inl ⟨by rfl, fun W9 hW => by clear hHeld hW; simp only [jA, jB, jC]; go_simp⟩) ?_
  simp only [Act.put, jA, jB, jC, jD, jE, jF]
  refine tkH 3 (.pointer (some ⟨b, off + i * 7, none⟩)) rfl (by kernel_rfl) (fun _ _ _ => False.elim) hHeld (Or.inl ⟨by rfl, fun W9 hW => by have hlt9 := hlt; clear hHeld hW; simp only [jA, jB, jC]; go_simp⟩) ?_
  simp only [Act.put, jA, jB, jC, jD, jE, jF]
  refine tkH 4 (.pointer (some ⟨b, off + i * 7, none⟩)) rfl (by kernel_rfl) (fun _ _ _ => False.elim) hHeld (Or.inl ⟨by rfl, fun W9 hW => by clear hHeld hW; simp only [jA, jB, jC]; go_simp⟩) ?_
  simp only [Act.put, jA, jB, jC, jD, jE, jF]
  refine tkH 5 (.int .i64 y.id) rfl (by kernel_rfl) (fun _ _ _ => False.elim) hHeld (Or.inl ⟨by rfl, fun W9 hW => by obtain ⟨q0, q1, q2, q3, q4, q5, q6, q7, q8, q9, q10, q11, q12, q13, q14⟩ := HK22.out _ (below_step HCw22.out hW.out); clear hHeld hW; simp only [jA, jB, jC]; go_simp⟩) ?_
  simp only [Act.put, jA, jB, jC, jD, jE, jF]
  refine tkH 6 (.int .i64 id) rfl (by kernel_rfl) (fun _ _ _ => False.elim) hHeld (Or.inl ⟨by rfl, fun W9 hW => by clear hHeld hW; simp only [jA, jB, jC]; go_simp⟩) ?_
  simp only [Act.put, jA, jB, jC, jD, jE, jF]
  refine tkH 7 (.bool true) rfl (by kernel_rfl) (fun _ _ _ => False.elim) hHeld (Or.inl ⟨by rfl, fun W9 hW => by have he9 := he; clear hHeld hW; simp only [jA, jB, jC]; go_simp⟩) ?_
  simp only [Act.put, jA, jB, jC, jD, jE, jF]
  refine tkH 8 (.bool true) rfl (by kernel_rfl) (fun _ _ _ => False.elim) hHeld (Or.inl ⟨by rfl, fun W9 hW => by clear hHeld hW; simp only [jA, jB, jC]; go_simp⟩) ?_
  simp only [Act.put, jA, jB, jC, jD, jE, jF]
  refine tkH 9 (.bool true) rfl (by kernel_rfl) (fun _ _ _ => False.elim) hHeld (Or.inl ⟨by rfl, fun W9 hW => by clear hHeld hW; simp only [jA, jB, jC]; go_simp⟩) ?_
  simp only [Act.put, jA, jB, jC, jD, jE, jF]
  refine tkH 10 (.bool false) rfl (by kernel_rfl) (fun _ _ _ => False.elim) hHeld (Or.inl ⟨by rfl, fun W9 hW => by clear hHeld hW; simp only [jA, jB, jC]; go_simp⟩) ?_
  simp only [Act.put, jA, jB, jC, jD, jE, jF]
  refine tkH 11 (.bool false) rfl (by kernel_rfl) (fun _ _ _ => False.elim) hHeld (Or.inl ⟨by rfl, fun W9 hW => by clear hHeld hW; simp only [jA, jB, jC]; go_simp⟩) ?_
  simp only [Act.put, jA, jB, jC, jD, jE, jF]
  refine tkH 12 (.agg #[.int .i64 y.id, .int .i64 y.table, .string ⟨y.name.toArray⟩, .slice ya y.cols.length yc, .bool y.uniq, .int .i64 y.state, .bool y.bad]) rfl (by kernel_rfl) (fun _ _ _ => False.elim) hHeld (Or.inl ⟨by rfl, fun W9 hW => by obtain ⟨q0, q1, q2, q3, q4, q5, q6, q7, q8, q9, q10, q11, q12, q13, q14⟩ := HK22.out _ (below_step HCw22.out hW.out); clear hHeld hW; simp only [jA, jB, jC]; go_simp⟩) ?_
  simp only [Act.put, jA, jB, jC, jD, jE, jF]
  refine tkH 13 (.pointer (some ⟨W.heap.size, 3, none⟩)) rfl (by kernel_rfl) (fun _ _ _ => False.elim) hHeld (Or.inl ⟨by rfl, fun W9 hW => by clear hHeld hW; simp only [jA, jB, jC]; go_simp⟩) ?_
  simp only [Act.put, jA, jB, jC, jD, jE, jF]
  refine tkH 14 (.slice (some ⟨b, off, none⟩) C.idxs.length c') rfl (by kernel_rfl) (fun _ _ _ => False.elim) hHeld (Or.inl ⟨by rfl, fun W9 hW => by obtain ⟨q0, q1, q2, q3, q4, q5, q6, q7, q8, q9, q10, q11, q12, q13, q14⟩ := HK22.out _ (below_step HCw22.out hW.out); clear hHeld hW; simp only [jA, jB, jC]; go_simp⟩) ?_
  simp only [Act.put, jA, jB, jC, jD, jE, jF]
  refine tkH 15 (.int .i64 (i : Int)) rfl (by kernel_rfl) (fun _ _ _ => False.elim) hHeld (Or.inl ⟨by rfl, fun W9 hW => by clear hHeld hW; simp only [jA, jB, jC]; go_simp⟩) ?_
  simp only [Act.put, jA, jB, jC, jD, jE, jF]
  refine tkH 16 (.pointer (some ⟨b, off + i * 7, none⟩)) rfl (by kernel_rfl) (fun _ _ _ => False.elim) hHeld (Or.inl ⟨by rfl, fun W9 hW => by have hlt9 := hlt; clear hHeld hW; simp only [jA, jB, jC]; go_simp⟩) ?_
  simp only [Act.put, jA, jB, jC, jD, jE, jF]
  refine tkH 17 (.agg #[.int .i64 y.id, .int .i64 y.table, .string ⟨y.name.toArray⟩, .slice ub y.cols.length uc, .bool y.uniq, .int .i64 y.state, .bool y.bad]) rfl (by kernel_rfl) (fun _ _ _ => False.elim) hHeld (Or.inl ⟨by rfl, fun W9 hW => by obtain ⟨q0, q1, q2, q3, q4, q5, q6, q7, q8, q9, q10, q11, q12, q13, q14⟩ := HK22.out _ (below_step HCw22.out hW.out); clear hHeld hW; simp only [jA, jB, jC]; go_simp⟩) ?_
  simp only [Act.put, jA, jB, jC, jD, jE, jF]
  refine rdH 18 (by kernel_rfl) rfl fun K hK => ?_
  rw [if_pos (by rfl)]
  go_simp
  have CQ := hid (idx_same (HYN2.out.old (below_step HCw22.out hHeld.out)) (HUN2.out.old (below_step HCw22.out hHeld.out)))
  go_wp2_with (first | (go_at_call 25; refine CQ.out.mono ?_; rintro en wc9 ⟨rfl, hbE⟩; have HBE := hid (below_step hHeld.out hbE); have HCwc9 := hid (below_step HCw22.out HBE.out)))
  clear CQ
  clear hHeld
  refine hK.out _ _ HBE (fun hHeld => ?_)
  clear hK K
  try simp only [Act.put, jA, jB, jC, jD, jE, jF]
  refine wpAnyH_low2 (S' := fun V => Hid (Below wc9.heap.size wc9 V)) (fun V hV => hid (below_step HBE.out hV.out)) _ _ _ _ ?_
  clear hHeld HBE
  have hHeld : Hid (Below wc9.heap.size wc9 wc9) := hid (Below.refl _ _)
  refine tkH 19 (.bool false) rfl (by kernel_rfl) (fun _ _ _ => False.elim) hHeld (Or.inl ⟨by rfl, fun W9 hW => by clear hHeld hW; simp only [jA, jB, jC]; go_simp⟩) ?_
  simp only [Act.put, jA, jB, jC, jD, jE, jF]
  refine tkH 20 (.bool false) rfl (by kernel_rfl) (fun _ _ _ => False.elim) hHeld (Or.inl ⟨by rfl, fun W9 hW => by clear hHeld hW; simp only [jA, jB, jC]; go_simp⟩) ?_
  simp only [Act.put, jA, jB, jC, jD, jE, jF]
  refine tkH 21 (.bool false) rfl (by kernel_rfl) (fun _ _ _ => False.elim) hHeld (Or.inl ⟨by rfl, fun W9 hW => by clear hHeld hW; simp only [jA, jB, jC]; go_simp⟩) ?_
  simp only [Act.put, jA, jB, jC, jD, jE, jF]
  refine wpAnyH_done (by kernel_rfl) (NoPanic.normal ?_) _
  clear hHeld
  have hkm9 := HKM.out
  go_wp2_with fail
  go_roundw
  case rel => exact ⟨i + 1, by omega, by go_num, hid (HB22.out.trans (HCwc9.out.mono HB22.out.size))⟩
  case measure => simp [intOf]; omega
end Go.Proofs.Ytafcbelkhhjcoaa.schemaOthers
