/-
  THE LAW SchemaLife: the walk (made by src2/gen_slife.py).
-/
import Derived.Test.YtpdmocdfnakggaaSub
import Derived.Test.YtpdmocdfnakggaaSrb
import Derived.Test.YtpdmocdfnakggaaSp
import Derived.Test.YtpdmocdfnakggaaSop
import Derived.Great.BuildSlice
set_option linter.unusedVariables false
set_option linter.unusedSimpArgs false
set_option maxRecDepth 100000
namespace Go.Proofs.Ytpdmocdfnakggaa.schemaLife
open Go.RowKit Go.Deep

set_option maxHeartbeats 32000000 in
theorem walk {H : Type} {enc : TypeId × Value → H} (v0 v1 : Value) (nm9 : ByteArray) (bad : Bool) (W : World) {base : Nat} {d0 d1 : DataW H} {p0 p1 : List MemPlace} (hw0 : Value.okWide Try.prog W .any base 25 v0) (h0 : DataW.Trod enc Try.prog W 0 (fun _ => true) true 25 v0 d0 p0) (hk0 : ∀ n ∈ d0.weights Try.prog 25, n ≤ reachBytes)
    (hw1 : Value.okWide Try.prog W .any base 37 v1) (h1 : DataW.Trod enc Try.prog W 0 (fun _ => true) true 37 v1 d1 p1) (hk1 : ∀ n ∈ d1.weights Try.prog 37, n ≤ reachBytes) :
    Calls Try.prog 5 #[v0, v1, .string nm9, .bool bad] W (fun e w' => e = .returned (.bool true) ∧ Below W.heap.size W w') := by
  obtain ⟨nm, rfl⟩ : ∃ s : List UInt8, nm9 = ⟨s.toArray⟩ := ⟨nm9.data.toList, by simp⟩
  obtain ⟨cs0, C, rfl, hc0, hW0⟩ := catalog_open hw0 h0
  obtain ⟨cs1, x, rfl, hx, hxW⟩ := index_open hw1 h1
  have HW0 := hid (hW0 hk0)
  have HXW := hid (hxW hk1)
  have HC0 := hid hc0
  have HX0 := hid hx
  obtain ⟨a, c, a', c', rfl, -, -, -, -⟩ := cat_open hc0
  obtain ⟨xa, xc, rfl⟩ := idx_form hx
  clear hc0 hx hW0 hxW hw0 h0 hk0 hw1 h1 hk1
  go_enter Try.func5, Try.ntmps5
  go_upto_region 1 with fail
  have hba := (Below.refl W.heap.size W).alloc (Nat.le_refl _) (.cells #[.int .i64 C.ver, .int .i64 C.nxt, .slice a C.tabs.length c, .slice a' C.idxs.length c'] 25)
  have hza := heap_alloc_new W (.cells #[.int .i64 C.ver, .int .i64 C.nxt, .slice a C.tabs.length c, .slice a' C.idxs.length c'] 25)
  have hsa : (W.alloc (.cells #[.int .i64 C.ver, .int .i64 C.nxt, .slice a C.tabs.length c, .slice a' C.idxs.length c'] 25)).heap.size = W.heap.size + 1 := by simp
  generalize W.alloc (.cells #[.int .i64 C.ver, .int .i64 C.nxt, .slice a C.tabs.length c, .slice a' C.idxs.length c'] 25) = wa at *
  have HBa := hid hba
  have HZa := hid hza
  have HSa := hid hsa
  clear hba hza hsa
  have hb1 := (Below.refl wa.heap.size wa).alloc (Nat.le_refl _) (.cells #[.int .i64 x.id, .int .i64 x.table, .string ⟨x.name.toArray⟩, .slice xa x.cols.length xc, .bool x.uniq, .int .i64 x.state, .bool x.bad] 37)
  have hz1 := heap_alloc_new wa (.cells #[.int .i64 x.id, .int .i64 x.table, .string ⟨x.name.toArray⟩, .slice xa x.cols.length xc, .bool x.uniq, .int .i64 x.state, .bool x.bad] 37)
  rw [HSa.out] at hz1
  generalize wa.alloc (.cells #[.int .i64 x.id, .int .i64 x.table, .string ⟨x.name.toArray⟩, .slice xa x.cols.length xc, .bool x.uniq, .int .i64 x.state, .bool x.bad] 37) = w1 at *
  have HB1 := hid (below_step HBa.out hb1)
  have HSS1 := hid hb1.size
  have HZ1 := hid ((hb1.block _ (lt_of_block HZa.out)).trans HZa.out)
  have HP1 := hid hz1
  clear hb1 hz1
  have CA1 := hid (awake_any w1)
  have z0 := cell_in HZ1.out 0 _ rfl
  have z1 := cell_in HZ1.out 1 _ rfl
  have z2 := cell_in HZ1.out 2 _ rfl
  have z3 := cell_in HZ1.out 3 _ rfl
  have p0 := cell_in HP1.out 0 _ rfl
  have p1 := cell_in HP1.out 1 _ rfl
  have p2 := cell_in HP1.out 2 _ rfl
  have p3 := cell_in HP1.out 3 _ rfl
  have p4 := cell_in HP1.out 4 _ rfl
  have p5 := cell_in HP1.out 5 _ rfl
  have p6 := cell_in HP1.out 6 _ rfl
  cases hs : smallB C with
  | false =>
    go_wp2_with (first | (go_at_call 8; refine CA1.out.mono ?_; rintro en w2 ⟨rfl, hb2⟩; have HB2 := hid (below_step HB1.out hb2); have HSS2 := hid hb2.size; have HZ2 := hid ((hb2.block _ (lt_of_block HZ1.out)).trans HZ1.out); have HP2 := hid ((hb2.block _ (lt_of_block HP1.out)).trans HP1.out); clear z0 z1 z2 z3; clear p0 p1 p2 p3 p4 p5 p6; have z0 := cell_in HZ2.out 0 _ rfl; have z1 := cell_in HZ2.out 1 _ rfl; have z2 := cell_in HZ2.out 2 _ rfl; have z3 := cell_in HZ2.out 3 _ rfl; have p0 := cell_in HP2.out 0 _ rfl; have p1 := cell_in HP2.out 1 _ rfl; have p2 := cell_in HP2.out 2 _ rfl; have p3 := cell_in HP2.out 3 _ rfl; have p4 := cell_in HP2.out 4 _ rfl; have p5 := cell_in HP2.out 5 _ rfl; have p6 := cell_in HP2.out 6 _ rfl; have CSM := hid (small_any (HC0.out.old HB2.out)); rw [hs] at CSM; clear CA1; clear hb2) | (go_at_call 7; refine CSM.out.mono ?_; rintro en w3 ⟨rfl, hb3⟩; have HB3 := hid (below_step HB2.out hb3); have HSS3 := hid hb3.size; have HZ3 := hid ((hb3.block _ (lt_of_block HZ2.out)).trans HZ2.out); have HP3 := hid ((hb3.block _ (lt_of_block HP2.out)).trans HP2.out); clear z0 z1 z2 z3; clear p0 p1 p2 p3 p4 p5 p6; have z0 := cell_in HZ3.out 0 _ rfl; have z1 := cell_in HZ3.out 1 _ rfl; have z2 := cell_in HZ3.out 2 _ rfl; have z3 := cell_in HZ3.out 3 _ rfl; have p0 := cell_in HP3.out 0 _ rfl; have p1 := cell_in HP3.out 1 _ rfl; have p2 := cell_in HP3.out 2 _ rfl; have p3 := cell_in HP3.out 3 _ rfl; have p4 := cell_in HP3.out 4 _ rfl; have p5 := cell_in HP3.out 5 _ rfl; have p6 := cell_in HP3.out 6 _ rfl; have CR := hid (rRight_any (HC0.out.old HB3.out) HW0.out); have CA2 := hid (awake_any w3); clear CSM; clear hb3) | (go_at_call 8; refine CA2.out.mono ?_; rintro en w4 ⟨rfl, hb4⟩; have HB4 := hid (below_step HB3.out hb4); clear hb4))
    go_ret
    exact ⟨rfl, HB4.out⟩
  | true =>
  have HSM := hid (small_S hs)
  cases hq : catB C with
  | false =>
    go_wp2_with (first | (go_at_call 8; refine CA1.out.mono ?_; rintro en w2 ⟨rfl, hb2⟩; have HB2 := hid (below_step HB1.out hb2); have HSS2 := hid hb2.size; have HZ2 := hid ((hb2.block _ (lt_of_block HZ1.out)).trans HZ1.out); have HP2 := hid ((hb2.block _ (lt_of_block HP1.out)).trans HP1.out); clear z0 z1 z2 z3; clear p0 p1 p2 p3 p4 p5 p6; have z0 := cell_in HZ2.out 0 _ rfl; have z1 := cell_in HZ2.out 1 _ rfl; have z2 := cell_in HZ2.out 2 _ rfl; have z3 := cell_in HZ2.out 3 _ rfl; have p0 := cell_in HP2.out 0 _ rfl; have p1 := cell_in HP2.out 1 _ rfl; have p2 := cell_in HP2.out 2 _ rfl; have p3 := cell_in HP2.out 3 _ rfl; have p4 := cell_in HP2.out 4 _ rfl; have p5 := cell_in HP2.out 5 _ rfl; have p6 := cell_in HP2.out 6 _ rfl; have CSM := hid (small_any (HC0.out.old HB2.out)); rw [hs] at CSM; clear CA1; clear hb2) | (go_at_call 7; refine CSM.out.mono ?_; rintro en w3 ⟨rfl, hb3⟩; have HB3 := hid (below_step HB2.out hb3); have HSS3 := hid hb3.size; have HZ3 := hid ((hb3.block _ (lt_of_block HZ2.out)).trans HZ2.out); have HP3 := hid ((hb3.block _ (lt_of_block HP2.out)).trans HP2.out); clear z0 z1 z2 z3; clear p0 p1 p2 p3 p4 p5 p6; have z0 := cell_in HZ3.out 0 _ rfl; have z1 := cell_in HZ3.out 1 _ rfl; have z2 := cell_in HZ3.out 2 _ rfl; have z3 := cell_in HZ3.out 3 _ rfl; have p0 := cell_in HP3.out 0 _ rfl; have p1 := cell_in HP3.out 1 _ rfl; have p2 := cell_in HP3.out 2 _ rfl; have p3 := cell_in HP3.out 3 _ rfl; have p4 := cell_in HP3.out 4 _ rfl; have p5 := cell_in HP3.out 5 _ rfl; have p6 := cell_in HP3.out 6 _ rfl; have CR := hid (rRight_any (HC0.out.old HB3.out) HW0.out); rw [hq] at CR; clear CSM; clear hb3) | (go_at_call 11; refine CR.out.mono ?_; rintro en w4 ⟨rfl, hb4⟩; have HB4 := hid (below_step HB3.out hb4); have HSS4 := hid hb4.size; have HZ4 := hid ((hb4.block _ (lt_of_block HZ3.out)).trans HZ3.out); have HP4 := hid ((hb4.block _ (lt_of_block HP3.out)).trans HP3.out); clear z0 z1 z2 z3; clear p0 p1 p2 p3 p4 p5 p6; have z0 := cell_in HZ4.out 0 _ rfl; have z1 := cell_in HZ4.out 1 _ rfl; have z2 := cell_in HZ4.out 2 _ rfl; have z3 := cell_in HZ4.out 3 _ rfl; have p0 := cell_in HP4.out 0 _ rfl; have p1 := cell_in HP4.out 1 _ rfl; have p2 := cell_in HP4.out 2 _ rfl; have p3 := cell_in HP4.out 3 _ rfl; have p4 := cell_in HP4.out 4 _ rfl; have p5 := cell_in HP4.out 5 _ rfl; have p6 := cell_in HP4.out 6 _ rfl; have CA3 := hid (awake_any w4); clear hb4) | (go_at_call 8; refine CA3.out.mono ?_; rintro en w5 ⟨rfl, hb5⟩; have HB5 := hid (below_step HB4.out hb5); clear hb5))
    go_ret
    exact ⟨rfl, HB5.out⟩
  | true =>
  have HOK := hid ((catR_iff C).1 hq)
  by_cases hv : (1099511627776 : Int) < C.ver
  case pos =>
    as_aux_lemma =>
      go_wp2_with (first | (go_at_call 8; refine CA1.out.mono ?_; rintro en w2 ⟨rfl, hb2⟩; have HB2 := hid (below_step HB1.out hb2); have HSS2 := hid hb2.size; have HZ2 := hid ((hb2.block _ (lt_of_block HZ1.out)).trans HZ1.out); have HP2 := hid ((hb2.block _ (lt_of_block HP1.out)).trans HP1.out); clear z0 z1 z2 z3; clear p0 p1 p2 p3 p4 p5 p6; have z0 := cell_in HZ2.out 0 _ rfl; have z1 := cell_in HZ2.out 1 _ rfl; have z2 := cell_in HZ2.out 2 _ rfl; have z3 := cell_in HZ2.out 3 _ rfl; have p0 := cell_in HP2.out 0 _ rfl; have p1 := cell_in HP2.out 1 _ rfl; have p2 := cell_in HP2.out 2 _ rfl; have p3 := cell_in HP2.out 3 _ rfl; have p4 := cell_in HP2.out 4 _ rfl; have p5 := cell_in HP2.out 5 _ rfl; have p6 := cell_in HP2.out 6 _ rfl; have CSM := hid (small_any (HC0.out.old HB2.out)); rw [hs] at CSM; clear CA1; clear hb2) | (go_at_call 7; refine CSM.out.mono ?_; rintro en w3 ⟨rfl, hb3⟩; have HB3 := hid (below_step HB2.out hb3); have HSS3 := hid hb3.size; have HZ3 := hid ((hb3.block _ (lt_of_block HZ2.out)).trans HZ2.out); have HP3 := hid ((hb3.block _ (lt_of_block HP2.out)).trans HP2.out); clear z0 z1 z2 z3; clear p0 p1 p2 p3 p4 p5 p6; have z0 := cell_in HZ3.out 0 _ rfl; have z1 := cell_in HZ3.out 1 _ rfl; have z2 := cell_in HZ3.out 2 _ rfl; have z3 := cell_in HZ3.out 3 _ rfl; have p0 := cell_in HP3.out 0 _ rfl; have p1 := cell_in HP3.out 1 _ rfl; have p2 := cell_in HP3.out 2 _ rfl; have p3 := cell_in HP3.out 3 _ rfl; have p4 := cell_in HP3.out 4 _ rfl; have p5 := cell_in HP3.out 5 _ rfl; have p6 := cell_in HP3.out 6 _ rfl; have CR := hid (rRight_any (HC0.out.old HB3.out) HW0.out); rw [hq] at CR; clear CSM; clear hb3) | (go_at_call 11; refine CR.out.mono ?_; rintro en w4 ⟨rfl, hb4⟩; have HB4 := hid (below_step HB3.out hb4); have HSS4 := hid hb4.size; have HZ4 := hid ((hb4.block _ (lt_of_block HZ3.out)).trans HZ3.out); have HP4 := hid ((hb4.block _ (lt_of_block HP3.out)).trans HP3.out); clear z0 z1 z2 z3; clear p0 p1 p2 p3 p4 p5 p6; have z0 := cell_in HZ4.out 0 _ rfl; have z1 := cell_in HZ4.out 1 _ rfl; have z2 := cell_in HZ4.out 2 _ rfl; have z3 := cell_in HZ4.out 3 _ rfl; have p0 := cell_in HP4.out 0 _ rfl; have p1 := cell_in HP4.out 1 _ rfl; have p2 := cell_in HP4.out 2 _ rfl; have p3 := cell_in HP4.out 3 _ rfl; have p4 := cell_in HP4.out 4 _ rfl; have p5 := cell_in HP4.out 5 _ rfl; have p6 := cell_in HP4.out 6 _ rfl; have CA3 := hid (awake_any w4); clear hb4) | (go_at_call 8; refine CA3.out.mono ?_; rintro en w5 ⟨rfl, hb5⟩; have HB5 := hid (below_step HB4.out hb5); clear hb5))
      go_ret
      exact ⟨rfl, HB5.out⟩
  by_cases hl : (20 : Int) < (x.cols.length : Int)
  case pos =>
    as_aux_lemma =>
      go_wp2_with (first | (go_at_call 8; refine CA1.out.mono ?_; rintro en w2 ⟨rfl, hb2⟩; have HB2 := hid (below_step HB1.out hb2); have HSS2 := hid hb2.size; have HZ2 := hid ((hb2.block _ (lt_of_block HZ1.out)).trans HZ1.out); have HP2 := hid ((hb2.block _ (lt_of_block HP1.out)).trans HP1.out); clear z0 z1 z2 z3; clear p0 p1 p2 p3 p4 p5 p6; have z0 := cell_in HZ2.out 0 _ rfl; have z1 := cell_in HZ2.out 1 _ rfl; have z2 := cell_in HZ2.out 2 _ rfl; have z3 := cell_in HZ2.out 3 _ rfl; have p0 := cell_in HP2.out 0 _ rfl; have p1 := cell_in HP2.out 1 _ rfl; have p2 := cell_in HP2.out 2 _ rfl; have p3 := cell_in HP2.out 3 _ rfl; have p4 := cell_in HP2.out 4 _ rfl; have p5 := cell_in HP2.out 5 _ rfl; have p6 := cell_in HP2.out 6 _ rfl; have CSM := hid (small_any (HC0.out.old HB2.out)); rw [hs] at CSM; clear CA1; clear hb2) | (go_at_call 7; refine CSM.out.mono ?_; rintro en w3 ⟨rfl, hb3⟩; have HB3 := hid (below_step HB2.out hb3); have HSS3 := hid hb3.size; have HZ3 := hid ((hb3.block _ (lt_of_block HZ2.out)).trans HZ2.out); have HP3 := hid ((hb3.block _ (lt_of_block HP2.out)).trans HP2.out); clear z0 z1 z2 z3; clear p0 p1 p2 p3 p4 p5 p6; have z0 := cell_in HZ3.out 0 _ rfl; have z1 := cell_in HZ3.out 1 _ rfl; have z2 := cell_in HZ3.out 2 _ rfl; have z3 := cell_in HZ3.out 3 _ rfl; have p0 := cell_in HP3.out 0 _ rfl; have p1 := cell_in HP3.out 1 _ rfl; have p2 := cell_in HP3.out 2 _ rfl; have p3 := cell_in HP3.out 3 _ rfl; have p4 := cell_in HP3.out 4 _ rfl; have p5 := cell_in HP3.out 5 _ rfl; have p6 := cell_in HP3.out 6 _ rfl; have CR := hid (rRight_any (HC0.out.old HB3.out) HW0.out); rw [hq] at CR; clear CSM; clear hb3) | (go_at_call 11; refine CR.out.mono ?_; rintro en w4 ⟨rfl, hb4⟩; have HB4 := hid (below_step HB3.out hb4); have HSS4 := hid hb4.size; have HZ4 := hid ((hb4.block _ (lt_of_block HZ3.out)).trans HZ3.out); have HP4 := hid ((hb4.block _ (lt_of_block HP3.out)).trans HP3.out); clear z0 z1 z2 z3; clear p0 p1 p2 p3 p4 p5 p6; have z0 := cell_in HZ4.out 0 _ rfl; have z1 := cell_in HZ4.out 1 _ rfl; have z2 := cell_in HZ4.out 2 _ rfl; have z3 := cell_in HZ4.out 3 _ rfl; have p0 := cell_in HP4.out 0 _ rfl; have p1 := cell_in HP4.out 1 _ rfl; have p2 := cell_in HP4.out 2 _ rfl; have p3 := cell_in HP4.out 3 _ rfl; have p4 := cell_in HP4.out 4 _ rfl; have p5 := cell_in HP4.out 5 _ rfl; have p6 := cell_in HP4.out 6 _ rfl; have CA3 := hid (awake_any w4); clear hb4) | (go_at_call 8; refine CA3.out.mono ?_; rintro en w5 ⟨rfl, hb5⟩; have HB5 := hid (below_step HB4.out hb5); clear hb5))
      go_ret
      exact ⟨rfl, HB5.out⟩
  go_upto_region 3 with (first | (go_at_call 8; refine CA1.out.mono ?_; rintro en w2 ⟨rfl, hb2⟩; have HB2 := hid (below_step HB1.out hb2); have HSS2 := hid hb2.size; have HZ2 := hid ((hb2.block _ (lt_of_block HZ1.out)).trans HZ1.out); have HP2 := hid ((hb2.block _ (lt_of_block HP1.out)).trans HP1.out); clear z0 z1 z2 z3; clear p0 p1 p2 p3 p4 p5 p6; have z0 := cell_in HZ2.out 0 _ rfl; have z1 := cell_in HZ2.out 1 _ rfl; have z2 := cell_in HZ2.out 2 _ rfl; have z3 := cell_in HZ2.out 3 _ rfl; have p0 := cell_in HP2.out 0 _ rfl; have p1 := cell_in HP2.out 1 _ rfl; have p2 := cell_in HP2.out 2 _ rfl; have p3 := cell_in HP2.out 3 _ rfl; have p4 := cell_in HP2.out 4 _ rfl; have p5 := cell_in HP2.out 5 _ rfl; have p6 := cell_in HP2.out 6 _ rfl; have CSM := hid (small_any (HC0.out.old HB2.out)); rw [hs] at CSM; clear CA1; clear hb2) | (go_at_call 7; refine CSM.out.mono ?_; rintro en w3 ⟨rfl, hb3⟩; have HB3 := hid (below_step HB2.out hb3); have HSS3 := hid hb3.size; have HZ3 := hid ((hb3.block _ (lt_of_block HZ2.out)).trans HZ2.out); have HP3 := hid ((hb3.block _ (lt_of_block HP2.out)).trans HP2.out); clear z0 z1 z2 z3; clear p0 p1 p2 p3 p4 p5 p6; have z0 := cell_in HZ3.out 0 _ rfl; have z1 := cell_in HZ3.out 1 _ rfl; have z2 := cell_in HZ3.out 2 _ rfl; have z3 := cell_in HZ3.out 3 _ rfl; have p0 := cell_in HP3.out 0 _ rfl; have p1 := cell_in HP3.out 1 _ rfl; have p2 := cell_in HP3.out 2 _ rfl; have p3 := cell_in HP3.out 3 _ rfl; have p4 := cell_in HP3.out 4 _ rfl; have p5 := cell_in HP3.out 5 _ rfl; have p6 := cell_in HP3.out 6 _ rfl; have CR := hid (rRight_any (HC0.out.old HB3.out) HW0.out); rw [hq] at CR; clear CSM; clear hb3) | (go_at_call 11; refine CR.out.mono ?_; rintro en w4 ⟨rfl, hb4⟩; have HB4 := hid (below_step HB3.out hb4); have HSS4 := hid hb4.size; have HZ4 := hid ((hb4.block _ (lt_of_block HZ3.out)).trans HZ3.out); have HP4 := hid ((hb4.block _ (lt_of_block HP3.out)).trans HP3.out); clear z0 z1 z2 z3; clear p0 p1 p2 p3 p4 p5 p6; have z0 := cell_in HZ4.out 0 _ rfl; have z1 := cell_in HZ4.out 1 _ rfl; have z2 := cell_in HZ4.out 2 _ rfl; have z3 := cell_in HZ4.out 3 _ rfl; have p0 := cell_in HP4.out 0 _ rfl; have p1 := cell_in HP4.out 1 _ rfl; have p2 := cell_in HP4.out 2 _ rfl; have p3 := cell_in HP4.out 3 _ rfl; have p4 := cell_in HP4.out 4 _ rfl; have p5 := cell_in HP4.out 5 _ rfl; have p6 := cell_in HP4.out 6 _ rfl; have CA3 := hid (awake_any w4); clear hb4))
  clear hs hq CA3 CR
  have HVL := hid (show ¬ (1099511627776 : Int) < C.ver by omega)
  have HV0 := hid HOK.out.ver
  have HNX := hid HOK.out.nxt
  have hvw : IntKind.i64.wrap (C.ver + 1) = C.ver + 1 := by rw [IntKind.wrap_i64]; have := HV0.out; omega
  have CI := hid (addIndex_any (HC0.out.old HB4.out) HSM.out (by have := HV0.out; omega) (by have := HNX.out; omega) (HX0.out.old HB4.out) HXW.out (by omega) nm)
  have HAO := hid (addIndexM_ok HOK.out x nm)
  have HAS := hid (addIndex_stay (C := C) (x := x) (s := nm))
  have HAL := hid (addIndex_life (C := C) (x := x) (s := nm))
  generalize addIndexM C x nm = R at *
  go_upto_region 4 with (first | (go_at_call 23; refine CI.out.mono ?_; rintro en w5 ⟨vs, rfl, hb5, hc5⟩; obtain ⟨na, nc, nb, nd, rfl⟩ := cat_form hc5; have HB5 := hid (below_step HB4.out hb5); have HSS5 := hid hb5.size; have HZ5 := hid ((hb5.block _ (lt_of_block HZ4.out)).trans HZ4.out); have HP5 := hid ((hb5.block _ (lt_of_block HP4.out)).trans HP4.out); have HNN5 := hid hc5; clear z0 z1 z2 z3; clear p0 p1 p2 p3 p4 p5 p6; clear hb5 hc5))
  have hb6 := (Below.refl w5.heap.size w5).alloc (Nat.le_refl _) (.cells #[.int .i64 R.1.ver, .int .i64 R.1.nxt, .slice na R.1.tabs.length nc, .slice nb R.1.idxs.length nd] 25)
  have hz6 := heap_alloc_new w5 (.cells #[.int .i64 R.1.ver, .int .i64 R.1.nxt, .slice na R.1.tabs.length nc, .slice nb R.1.idxs.length nd] 25)
  have hs6 : (w5.alloc (.cells #[.int .i64 R.1.ver, .int .i64 R.1.nxt, .slice na R.1.tabs.length nc, .slice nb R.1.idxs.length nd] 25)).heap.size = w5.heap.size + 1 := by simp
  generalize w5.alloc (.cells #[.int .i64 R.1.ver, .int .i64 R.1.nxt, .slice na R.1.tabs.length nc, .slice nb R.1.idxs.length nd] 25) = w6 at *
  have HB6 := hid (below_step HB5.out hb6)
  have HSS6 := hid hb6.size
  have HZ6 := hid ((hb6.block _ (lt_of_block HZ5.out)).trans HZ5.out)
  have HP6 := hid ((hb6.block _ (lt_of_block HP5.out)).trans HP5.out)
  have HNN6 := hid (HNN5.out.old hb6)
  have HN6 := hid hz6
  have HS6 := hid hs6
  clear hb6 hz6 hs6 CI
  by_cases hr : R.2 = 0
  case neg =>
    as_aux_lemma =>
      have hver := HAS.out hr
      have z0 := cell_in HZ6.out 0 _ rfl
      have n0 := cell_in HN6.out 0 _ rfl
      rw [hver] at n0
      go_wp2_with fail
      go_ret
      exact ⟨rfl, HB6.out⟩
  obtain ⟨tid, e1, hnn, hn9, hl9⟩ := HAL.out hr
  have e2 : R.1 = lifeC C (lifX C tid x 1 false) 1 := e1
  clear e1 HAS HAL
  obtain ⟨R1, R2⟩ := R
  simp only at e2 hr
  subst e2 hr
  have HL := hid (show LifeOk C x from ⟨HOK.out, hnn, by omega⟩)
  have HOKn := hid HAO.out.1
  clear HAO hnn hn9 hl9
  have el : (lifeC C (lifX C tid x 1 false) 1).idxs.length = C.idxs.length + 1 := by show (C.idxs ++ [_]).length = _; rw [List.length_append]; rfl
  have HNr : Hid (w6.heap[w5.heap.size]? = some (.cells #[.int .i64 (C.ver + 1), .int .i64 (C.nxt + 1), .slice na C.tabs.length nc, .slice nb (C.idxs.length + 1) nd] 25 (0, 0))) := hid (by have h := HN6.out; rw [el] at h; exact h)
  have HNNr : Hid (CatN (New w4 w5) w6 [.int .i64 (C.ver + 1), .int .i64 (C.nxt + 1), .slice na C.tabs.length nc, .slice nb (C.idxs.length + 1) nd] (lifeC C (lifX C tid x 1 false) 1)) := hid (by have h := HNN6.out; rw [el] at h; exact h)
  clear HN6 HNN6 el HNN5
  have HN6 := HNr
  have HNN6 := HNNr
  clear HNr HNNr
  have CY := hid (index_life HL.out HNN6.out HOKn.out)
  have HSn := hid (show W.heap.size + 1 < w5.heap.size from by have := lt_of_block HP5.out; omega)
  have n0 := cell_in HN6.out 0 _ rfl
  have n1 := cell_in HN6.out 1 _ rfl
  have n2 := cell_in HN6.out 2 _ rfl
  have n3 := cell_in HN6.out 3 _ rfl
  have p0 := cell_in HP6.out 0 _ rfl
  have p1 := cell_in HP6.out 1 _ rfl
  have p2 := cell_in HP6.out 2 _ rfl
  have p3 := cell_in HP6.out 3 _ rfl
  have p4 := cell_in HP6.out 4 _ rfl
  have p5 := cell_in HP6.out 5 _ rfl
  have p6 := cell_in HP6.out 6 _ rfl
  go_upto_region 7 with (first | (go_at_call 15; refine CY.out.mono ?_; rintro en w7 ⟨ya, yc, rfl, hb7⟩; have HB7 := hid (below_step HB6.out hb7); have HSS7 := hid hb7.size; have HZ7 := hid ((hb7.block _ (lt_of_block HZ6.out)).trans HZ6.out); have HP7 := hid ((hb7.block _ (lt_of_block HP6.out)).trans HP6.out); have HN7 := hid ((hb7.block _ (lt_of_block HN6.out)).trans HN6.out); have HNN7 := hid (HNN6.out.old hb7); clear n0 n1 n2 n3; clear p0 p1 p2 p3 p4 p5 p6; clear hb7))
  have hb8 := (Below.refl w7.heap.size w7).alloc (Nat.le_refl _) (.cells #[.int .i64 C.nxt, .int .i64 tid, .string ⟨x.name.toArray⟩, .slice ya x.cols.length yc, .bool x.uniq, .int .i64 1, .bool false] 37)
  have hz8 := heap_alloc_new w7 (.cells #[.int .i64 C.nxt, .int .i64 tid, .string ⟨x.name.toArray⟩, .slice ya x.cols.length yc, .bool x.uniq, .int .i64 1, .bool false] 37)
  have hs8 : (w7.alloc (.cells #[.int .i64 C.nxt, .int .i64 tid, .string ⟨x.name.toArray⟩, .slice ya x.cols.length yc, .bool x.uniq, .int .i64 1, .bool false] 37)).heap.size = w7.heap.size + 1 := by simp
  generalize w7.alloc (.cells #[.int .i64 C.nxt, .int .i64 tid, .string ⟨x.name.toArray⟩, .slice ya x.cols.length yc, .bool x.uniq, .int .i64 1, .bool false] 37) = w8 at *
  have HB8 := hid (below_step HB7.out hb8)
  have HSS8 := hid hb8.size
  have HZ8 := hid ((hb8.block _ (lt_of_block HZ7.out)).trans HZ7.out)
  have HP8 := hid ((hb8.block _ (lt_of_block HP7.out)).trans HP7.out)
  have HN8 := hid ((hb8.block _ (lt_of_block HN7.out)).trans HN7.out)
  have HNN8 := hid (HNN7.out.old hb8)
  have HY8 := hid hz8
  have HS8 := hid hs8
  clear hb8 hz8 hs8 CY
  have HSy := hid (show W.heap.size + 1 < w5.heap.size ∧ w5.heap.size < w7.heap.size ∧ w8.heap.size = w7.heap.size + 1 from by have := HSn.out; have := HSS7.out; have := HS6.out; have := HS8.out; omega)
  have z0 := cell_in HZ8.out 0 _ rfl
  have n0 := cell_in HN8.out 0 _ rfl
  have y5 := cell_in HY8.out 5 _ rfl
  go_upto_region 9 with fail
  clear z0 n0 y5 hvw
  go_upto_if 85 with fail
  have hb9 := (Below.refl w8.heap.size w8).alloc (Nat.le_refl _) (.cells #[.int .i64 2, .int .i64 3, .int .i64 4] 3)
  have hz9 := heap_alloc_new w8 (.cells #[.int .i64 2, .int .i64 3, .int .i64 4] 3)
  generalize w8.alloc (.cells #[.int .i64 2, .int .i64 3, .int .i64 4] 3) = w9 at *
  have HB9 := hid (below_step HB8.out hb9)
  have HSS9 := hid hb9.size
  have HZ9 := hid ((hb9.block _ (lt_of_block HZ8.out)).trans HZ8.out)
  have HP9 := hid ((hb9.block _ (lt_of_block HP8.out)).trans HP8.out)
  have HN9 := hid ((hb9.block _ (lt_of_block HN8.out)).trans HN8.out)
  have HY9 := hid ((hb9.block _ (lt_of_block HY8.out)).trans HY8.out)
  have HNN9 := hid (HNN8.out.old hb9)
  have HT9 := hid hz9
  have HX9 := hid hb9
  clear hb9 hz9
  go_cut [13] from 85 to 86 (fun s wx => ∃ b c, s = .slice (some ⟨b, 0, none⟩) (lifeL bad).length c ∧ (lifeL bad).length ≤ c ∧ c ≤ 5 ∧ w8.heap.size ≤ b ∧ b < wx.heap.size ∧ Hid (Below w9.heap.size w9 wx) ∧ Hid (∀ (i : Nat) z, (lifeL bad)[i]? = some z → wx.cell? ⟨b, i, none⟩ = some (.int .i64 z)))
  case first =>
    as_aux_lemma =>
      cases bad with
      | false =>
        go_wp2_with fail
        go_meet
        exact ⟨w8.heap.size, 3, rfl, by decide, by decide, Nat.le_refl _, lt_of_block HT9.out, hid (Below.refl _ _), hid (life_cells3 HT9.out)⟩
      | true =>
        go_upto_region 11 with fail
        refine wp_region_lit ?_
        refine Go.wpList_buildFlat rfl 31 3 5 _ rfl .i64 [2, 3, 6, 7, 0] Try.underlying31 (by kernel_rfl) (by kernel_rfl) rfl (by decide) (by decide) rfl ?_
        go_wp2_with fail
        have hz := heap_alloc_new w9 (.cells #[.int .i64 2, .int .i64 3, .int .i64 6, .int .i64 7, .int .i64 0] 3)
        have hb := (Below.refl w9.heap.size w9).alloc (Nat.le_refl _) (.cells #[.int .i64 2, .int .i64 3, .int .i64 6, .int .i64 7, .int .i64 0] 3)
        generalize w9.alloc (.cells #[.int .i64 2, .int .i64 3, .int .i64 6, .int .i64 7, .int .i64 0] 3) = wx at *
        go_meet
        exact ⟨w9.heap.size, 5, rfl, by decide, by decide, HSS9.out, lt_of_block hz, hid hb, hid (life_cells5 hz)⟩
  case rest =>
  obtain ⟨bs, cs, rfl, hsc1, hsc2, hbs1, hbs2, hbx, hcx⟩ := hcut
  have HBS := hid (show w8.heap.size ≤ bs from hbs1)
  clear hbs1
  have HSC := hid hcx
  have hbx9 := hbx.out
  generalize wc = w10 at *
  have HB10 := hid (below_step HB9.out hbx9)
  have HSS10 := hid hbx9.size
  have HZ10 := hid ((hbx9.block _ (lt_of_block HZ9.out)).trans HZ9.out)
  have HP10 := hid ((hbx9.block _ (lt_of_block HP9.out)).trans HP9.out)
  have HN10 := hid ((hbx9.block _ (lt_of_block HN9.out)).trans HN9.out)
  have HY10 := hid ((hbx9.block _ (lt_of_block HY9.out)).trans HY9.out)
  have HNN10 := hid (HNN9.out.old hbx9)
  clear hbx hcx hbx9 HT9 HX9
  go_wp2_with fail
  have HLT := hid (show w5.heap.size < w10.heap.size ∧ w7.heap.size < w10.heap.size ∧ bs < w10.heap.size ∧ w7.heap.size < bs ∧ w5.heap.size < w7.heap.size ∧ W.heap.size + 1 < w5.heap.size from by have h1 := HSy.out; have h2 := HBS.out; have h3 := HSS9.out; have h4 := HSS10.out; omega)
  clear hbs2
  go_loopw [14] (fun j wr => ∃ (i : Nat) (st : Int) (b : Bool) (a : Option Addr) (c : Nat) (a' : Option Addr) (c' : Nat) (ya : Option Addr) (yc : Nat), i ≤ (lifeL bad).length ∧ i ≤ 4 ∧ (1 :: lifeL bad)[i]? = some st ∧ b = (bad && decide (3 ≤ i)) ∧ j = .int .i64 (i : Int) ∧
      Hid (wr.heap[w5.heap.size]? = some (.cells #[.int .i64 (C.ver + (1 + (i : Int))), .int .i64 (C.nxt + 1), .slice a C.tabs.length c, .slice a' (C.idxs.length + 1) c'] 25 (0, 0))) ∧ Hid (wr.heap[w7.heap.size]? = some (.cells #[.int .i64 C.nxt, .int .i64 tid, .string ⟨x.name.toArray⟩, .slice ya x.cols.length yc, .bool x.uniq, .int .i64 st, .bool b] 37 (0, 0))) ∧
      Hid (Keep (fun k => k = w5.heap.size ∨ k = w7.heap.size) w10 wr) ∧ Hid (CatN (fun k => k ≠ w5.heap.size ∧ k ≠ w7.heap.size) wr [.int .i64 (C.ver + (1 + (i : Int))), .int .i64 (C.nxt + 1), .slice a C.tabs.length c, .slice a' (C.idxs.length + 1) c'] (lifeC C (lifX C tid x st b) (1 + (i : Int)))) ∧ Hid (CatOk (lifeC C (lifX C tid x st b) (1 + (i : Int)))))
    (fun j _ => (lifeL bad).length - (intOf j).toNat)
  case atStart => exact ⟨0, 1, false, na, nc, nb, nd, ya, yc, by omega, by omega, rfl, by simp, rfl, HN10, HY10, hid (Keep.refl _ _), hid (HNN10.out.mono (fun k e => by have h1 := HLT.out; have h2 := e.2; have h3 := HSy.out; exact ⟨by omega, by omega⟩)), HOKn⟩
  case round =>
  obtain ⟨i, st, b, a2, c2, a3, c3, ya2, yc2, hi, hi4, hst, rfl, rfl, HNr, HYr, HKr, HCr, HOKr⟩ := hrel
  have HZr := hid ((HKr.out.block _ (lt_of_block HZ10.out) (by have := HLT.out; omega)).trans HZ10.out)
  have HPr := hid ((HKr.out.block _ (lt_of_block HP10.out) (by have := HLT.out; omega)).trans HP10.out)
  have HSr := hid (show w10.heap.size ≤ wr.heap.size from HKr.out.size)
  have HBr : Hid (Below W.heap.size W wr) := hid (HB10.out.trans (HKr.out.below HB10.out.size (fun k e => by have := HLT.out; omega)))
  have HST := hid hst
  clear hst
  by_cases hlt : i < (lifeL bad).length
  case neg  =>
    obtain rfl : bad = false := by
      cases bad with
      | false => rfl
      | true => exact absurd (show i < 5 by omega) hlt
    obtain rfl : i = 3 := by
      have h1 : ¬ i < 3 := hlt
      have h2 : i ≤ 3 := hi
      omega
    obtain rfl : st = 4 := by
      have h := HST.out
      have h2 : some (4 : Int) = some st := h
      cases h2; rfl
    have HCs : Hid (CatN (fun k => k ≠ w5.heap.size ∧ k ≠ w7.heap.size) wr [.int .i64 (C.ver + 4), .int .i64 (C.nxt + 1), .slice a2 C.tabs.length c2, .slice a3 (C.idxs.length + 1) c3] (lifeC C (lifX C tid x 4 false) 4)) := hid HCr.out
    have HOs : Hid (CatOk (lifeC C (lifX C tid x 4 false) 4)) := hid HOKr.out
    have HNs : Hid (wr.heap[w5.heap.size]? = some (.cells #[.int .i64 (C.ver + 4), .int .i64 (C.nxt + 1), .slice a2 C.tabs.length c2, .slice a3 (C.idxs.length + 1) c3] 25 (0, 0))) := hid HNr.out
    clear HCr HOKr HNr HST hi hi4 hlt
    have CD : Hid (Calls Try.prog 24 #[.agg #[.int .i64 (C.ver + 4), .int .i64 (C.nxt + 1), .slice a2 C.tabs.length c2, .slice a3 (C.idxs.length + 1) c3], .string ⟨x.name.toArray⟩] wr (fun e w' => ∃ a c a' c', e = .returned (.tuple #[.agg #[.int .i64 (C.ver + 5), .int .i64 (C.nxt + 1), .slice a C.tabs.length c, .slice a' (C.idxs.length + 1) c'], .int .i64 0]) ∧ Below wr.heap.size wr w' ∧ CatN (New wr w') w' [.int .i64 (C.ver + 5), .int .i64 (C.nxt + 1), .slice a C.tabs.length c, .slice a' (C.idxs.length + 1) c'] (lifeC C (lifX C tid x 5 false) 5) ∧ CatOk (lifeC C (lifX C tid x 5 false) 5))) := hid (drop_life HL.out HCs.out HOs.out ⟨by omega, by omega⟩)
    have n0 := cell_in HNs.out 0 _ rfl
    have n1 := cell_in HNs.out 1 _ rfl
    have n2 := cell_in HNs.out 2 _ rfl
    have n3 := cell_in HNs.out 3 _ rfl
    have p2 := cell_in HPr.out 2 _ rfl
    go_upto_region 25 with (first | (go_at_call 24; refine CD.out.mono ?_; rintro en w20 ⟨da, dc, db, dd, rfl, hb20, hc20, ho20⟩; have HB20 := hid (below_step HBr.out hb20); have HSS20 := hid hb20.size; have HZ20 := hid ((hb20.block _ (lt_of_block HZr.out)).trans HZr.out); have HP20 := hid ((hb20.block _ (lt_of_block HPr.out)).trans HPr.out); have HY20 := hid ((hb20.block _ (lt_of_block HYr.out)).trans HYr.out); have HC20 := hid hc20; have HO20 := hid ho20; clear n0 n1 n2 n3 p2 hb20 hc20 ho20))
    clear CD HCs HOs HNs
    have hb21 := (Below.refl w20.heap.size w20).alloc (Nat.le_refl _) (.cells #[.int .i64 (C.ver + 5), .int .i64 (C.nxt + 1), .slice da C.tabs.length dc, .slice db (C.idxs.length + 1) dd] 25)
    have hz21 := heap_alloc_new w20 (.cells #[.int .i64 (C.ver + 5), .int .i64 (C.nxt + 1), .slice da C.tabs.length dc, .slice db (C.idxs.length + 1) dd] 25)
    have hs21 : (w20.alloc (.cells #[.int .i64 (C.ver + 5), .int .i64 (C.nxt + 1), .slice da C.tabs.length dc, .slice db (C.idxs.length + 1) dd] 25)).heap.size = w20.heap.size + 1 := by simp
    generalize w20.alloc (.cells #[.int .i64 (C.ver + 5), .int .i64 (C.nxt + 1), .slice da C.tabs.length dc, .slice db (C.idxs.length + 1) dd] 25) = w21 at *
    have HB21 := hid (below_step HB20.out hb21)
    have HSS21 := hid hb21.size
    have HZ21 := hid ((hb21.block _ (lt_of_block HZ20.out)).trans HZ20.out)
    have HP21 := hid ((hb21.block _ (lt_of_block HP20.out)).trans HP20.out)
    have HY21 := hid ((hb21.block _ (lt_of_block HY20.out)).trans HY20.out)
    have HM21 := hid hz21
    have HS21 := hid hs21
    have HC21 := hid (HC20.out.old hb21)
    clear hb21 hz21 hs21
    have CE : Hid (Calls Try.prog 24 #[.agg #[.int .i64 (C.ver + 5), .int .i64 (C.nxt + 1), .slice da C.tabs.length dc, .slice db (C.idxs.length + 1) dd], .string ⟨x.name.toArray⟩] w21 (fun e w' => ∃ a c a' c', e = .returned (.tuple #[.agg #[.int .i64 (C.ver + 5), .int .i64 (C.nxt + 1), .slice a C.tabs.length c, .slice a' (C.idxs.length + 1) c'], .int .i64 7]) ∧ Below w21.heap.size w21 w')) := hid (drop_again HL.out HC21.out HO20.out ⟨by omega, by omega⟩)
    have m0 := cell_in HM21.out 0 _ rfl
    have m1 := cell_in HM21.out 1 _ rfl
    have m2 := cell_in HM21.out 2 _ rfl
    have m3 := cell_in HM21.out 3 _ rfl
    have p2 := cell_in HP21.out 2 _ rfl
    go_upto_region 26 with (first | (go_at_call 24; refine CE.out.mono ?_; rintro en w22 ⟨fa, fc, fb, fd, rfl, hb22⟩; have HB22 := hid (below_step HB21.out hb22); have HSS22 := hid hb22.size; have HZ22 := hid ((hb22.block _ (lt_of_block HZ21.out)).trans HZ21.out); have HP22 := hid ((hb22.block _ (lt_of_block HP21.out)).trans HP21.out); have HY22 := hid ((hb22.block _ (lt_of_block HY21.out)).trans HY21.out); have HM22 := hid ((hb22.block _ (lt_of_block HM21.out)).trans HM21.out); have HC22 := hid (HC21.out.old hb22); clear m0 m1 m2 m3 p2 hb22))
    clear CE
    have hb23 := (Below.refl w22.heap.size w22).alloc (Nat.le_refl _) (.cells #[.int .i64 (C.ver + 5), .int .i64 (C.nxt + 1), .slice fa C.tabs.length fc, .slice fb (C.idxs.length + 1) fd] 25)
    generalize w22.alloc (.cells #[.int .i64 (C.ver + 5), .int .i64 (C.nxt + 1), .slice fa C.tabs.length fc, .slice fb (C.idxs.length + 1) fd] 25) = w23 at *
    have HB23 := hid (below_step HB22.out hb23)
    have HSS23 := hid hb23.size
    have HZ23 := hid ((hb23.block _ (lt_of_block HZ22.out)).trans HZ22.out)
    have HP23 := hid ((hb23.block _ (lt_of_block HP22.out)).trans HP22.out)
    have HY23 := hid ((hb23.block _ (lt_of_block HY22.out)).trans HY22.out)
    have HM23 := hid ((hb23.block _ (lt_of_block HM22.out)).trans HM22.out)
    have HC23 := hid (HC22.out.old hb23)
    clear hb23
    have HLU := hid (show w7.heap.size < w20.heap.size ∧ W.heap.size + 1 < w7.heap.size ∧ w20.heap.size < w23.heap.size ∧ wr.heap.size ≤ w20.heap.size ∧ w7.heap.size < wr.heap.size from by have h1 := HLT.out; have h2 := HSr.out; have h3 := HSS20.out; have h4 := lt_of_block HM23.out; omega)
    go_wp2_with fail
    generalize wr = wo at *
    go_loopw [21] (fun j wr => ∃ (i : Nat) (a : Option Addr) (c : Nat) (a' : Option Addr) (c' : Nat) (u0 u1 u2 u3 u4 u5 u6 : Value), i ≤ 3 ∧ j = .int .i64 (i : Int) ∧
        Hid (wr.heap[w20.heap.size]? = some (.cells #[.int .i64 (C.ver + (5 + (i : Int))), .int .i64 (C.nxt + 1), .slice a C.tabs.length c, .slice a' (lifD C tid x (lifeZ i) false (5 + (i : Int))).idxs.length c'] 25 (0, 0))) ∧ Hid (wr.heap[w7.heap.size]? = some (.cells #[u0, u1, u2, u3, u4, u5, u6] 37 (0, 0))) ∧
        Hid (Keep (fun k => k = w20.heap.size ∨ k = w7.heap.size) w23 wr) ∧ Hid (CatN (fun k => k ≠ w20.heap.size ∧ k ≠ w7.heap.size) wr [.int .i64 (C.ver + (5 + (i : Int))), .int .i64 (C.nxt + 1), .slice a C.tabs.length c, .slice a' (lifD C tid x (lifeZ i) false (5 + (i : Int))).idxs.length c'] (lifD C tid x (lifeZ i) false (5 + (i : Int)))) ∧ Hid (CatOk (lifD C tid x (lifeZ i) false (5 + (i : Int)))))
      (fun j _ => 3 - (intOf j).toNat)
    case atStart =>
      refine ⟨0, da, dc, db, dd, _, _, _, _, _, _, _, by omega, rfl, ?_, HY23, hid (Keep.refl _ _), ?_, ?_⟩
      · exact hid (by rw [lifD_lt (by omega), lifeC_len]; exact HM23.out)
      · exact hid (by rw [lifD_lt (by omega), lifeC_len]; exact HC23.out.mono (fun k e => by have h1 := HLU.out; have h2 := e.1; have h3 := e.2; exact ⟨by omega, by omega⟩))
      · exact hid (by rw [lifD_lt (by omega)]; exact HO20.out)
    case round =>
    obtain ⟨i, a2, c2, a3, c3, u0, u1, u2, u3, u4, u5, u6, hi, rfl, HMr, HYr, HKr, HCr, HOKr⟩ := hrel
    have HZr := hid ((HKr.out.block _ (lt_of_block HZ23.out) (by have := HLU.out; omega)).trans HZ23.out)
    have HPr := hid ((HKr.out.block _ (lt_of_block HP23.out) (by have := HLU.out; omega)).trans HP23.out)
    have HSr := hid (show w23.heap.size ≤ wr.heap.size from HKr.out.size)
    have HBr : Hid (Below W.heap.size W wr) := hid (HB23.out.trans (HKr.out.below HB23.out.size (fun k e => by have := HLU.out; omega)))
    by_cases hlt : i < 3
    case neg =>
      as_aux_lemma =>
        obtain rfl : i = 3 := by omega
        have h5 : (5 + ((3 : Nat) : Int)) = 8 := rfl
        have HMe : Hid (wr.heap[w20.heap.size]? = some (.cells #[.int .i64 (C.ver + 8), .int .i64 (C.nxt + 1), .slice a2 C.tabs.length c2, .slice a3 C.idxs.length c3] 25 (0, 0))) := hid (by have h := HMr.out; rw [lifD_end, goneC_len] at h; exact h)
        have HCe : Hid (CatN (fun k => k ≠ w20.heap.size ∧ k ≠ w7.heap.size) wr [.int .i64 (C.ver + 8), .int .i64 (C.nxt + 1), .slice a2 C.tabs.length c2, .slice a3 C.idxs.length c3] (goneC C 8)) := hid (by have h := HCr.out; rw [lifD_end, goneC_len] at h; exact h)
        have CG := hid (index_gone HL.out HCe.out)
        have hw8 : IntKind.i64.wrap (C.ver + 8) = C.ver + 8 := by rw [IntKind.wrap_i64]; have h1 := HV0.out; have h2 := HVL.out; omega
        have m0 := cell_in HMe.out 0 _ rfl
        have m1 := cell_in HMe.out 1 _ rfl
        have m2 := cell_in HMe.out 2 _ rfl
        have m3 := cell_in HMe.out 3 _ rfl
        have p2 := cell_in HPr.out 2 _ rfl
        clear HMr HCr HOKr HKr hi hlt h5
        go_upto_region 37 with (first | (go_at_call 15; refine CG.out.mono ?_; rintro en w30 ⟨qa, qc, rfl, hb30⟩; have HB30 := hid (below_step HBr.out hb30); have m30 : w30.cell? ⟨w20.heap.size, 0, none⟩ = some (.int .i64 (C.ver + 8)) := cell_in ((hb30.block _ (lt_of_block HMe.out)).trans HMe.out) 0 _ rfl; have z30 : w30.cell? ⟨W.heap.size, 0, none⟩ = some (.int .i64 C.ver) := cell_in ((hb30.block _ (lt_of_block HZr.out)).trans HZr.out) 0 _ rfl; clear m0 m1 m2 m3 p2 hb30))
        go_wp2_with fail
        go_ret
        exact ⟨rfl, HB30.out⟩
    have hki : (i : Int) < 3 := by omega
    have HMl : Hid (wr.heap[w20.heap.size]? = some (.cells #[.int .i64 (C.ver + (5 + (i : Int))), .int .i64 (C.nxt + 1), .slice a2 C.tabs.length c2, .slice a3 (C.idxs.length + 1) c3] 25 (0, 0))) := hid (by have h := HMr.out; rw [lifD_lt hlt, lifeC_len] at h; exact h)
    have HCl : Hid (CatN (fun k => k ≠ w20.heap.size ∧ k ≠ w7.heap.size) wr [.int .i64 (C.ver + (5 + (i : Int))), .int .i64 (C.nxt + 1), .slice a2 C.tabs.length c2, .slice a3 (C.idxs.length + 1) c3] (lifeC C (lifX C tid x (5 + (i : Int)) false) (5 + (i : Int)))) := hid (by have h := HCr.out; rw [lifD_lt hlt, lifeC_len] at h; exact h)
    have HOl : Hid (CatOk (lifeC C (lifX C tid x (5 + (i : Int)) false) (5 + (i : Int)))) := hid (by have h := HOKr.out; rw [lifD_lt hlt] at h; exact h)
    clear HMr HCr HOKr
    have CL := hid (index_life HL.out HCl.out HOl.out)
    have m0 := cell_in HMl.out 0 _ rfl
    have m1 := cell_in HMl.out 1 _ rfl
    have m2 := cell_in HMl.out 2 _ rfl
    have m3 := cell_in HMl.out 3 _ rfl
    have p2 := cell_in HPr.out 2 _ rfl
    go_upto_region 32 with (first | (go_at_call 15; refine CL.out.mono ?_; rintro en w24 ⟨ya3, yc3, rfl, hb24⟩; have HB24 := hid (below_step HBr.out hb24); have HX24 := hid hb24; have HY24 := hid ((hb24.block _ (lt_of_block HYr.out)).trans HYr.out); clear m0 m1 m2 m3 p2 hb24; have y0 := cell_in HY24.out 0 _ rfl; have y0f := free_in HY24.out 0; have y1 := cell_in HY24.out 1 _ rfl; have y1f := free_in HY24.out 1; have y2 := cell_in HY24.out 2 _ rfl; have y2f := free_in HY24.out 2; have y3 := cell_in HY24.out 3 _ rfl; have y3f := free_in HY24.out 3; have y4 := cell_in HY24.out 4 _ rfl; have y4f := free_in HY24.out 4; have y5 := cell_in HY24.out 5 _ rfl; have y5f := free_in HY24.out 5; have y6 := cell_in HY24.out 6 _ rfl; have y6f := free_in HY24.out 6))
    obtain ⟨q1, q2⟩ := put7 HY24.out (.int .i64 C.nxt) (.int .i64 tid) (.string ⟨x.name.toArray⟩) (.slice ya3 x.cols.length yc3) (.bool x.uniq) (.int .i64 (5 + (i : Int))) (.bool false)
    generalize ((((((w24.setCell ⟨w7.heap.size, 0, none⟩ (.int .i64 C.nxt)).setCell ⟨w7.heap.size, 1, none⟩ (.int .i64 tid)).setCell ⟨w7.heap.size, 2, none⟩ (.string ⟨x.name.toArray⟩)).setCell ⟨w7.heap.size, 3, none⟩ (.slice ya3 x.cols.length yc3)).setCell ⟨w7.heap.size, 4, none⟩ (.bool x.uniq)).setCell ⟨w7.heap.size, 5, none⟩ (.int .i64 (5 + (i : Int)))).setCell ⟨w7.heap.size, 6, none⟩ (.bool false) = w25 at *
    have HY25 := hid q1
    have HK25 := hid q2
    clear q1 q2 y0 y1 y2 y3 y4 y5 y6 y0f y1f y2f y3f y4f y5f y6f CL
    have HB25 : Hid (Below W.heap.size W w25) := hid (HB24.out.trans (HK25.out.below HB24.out.size (fun k e => by have e9 : k = w7.heap.size := e; have := HLU.out; omega)))
    have HM25 := hid ((HK25.out.block _ (lt_of_block ((HX24.out.block _ (lt_of_block HMl.out)).trans HMl.out)) (fun e => by have e9 : w20.heap.size = w7.heap.size := e; have := HLU.out; omega)).trans ((HX24.out.block _ (lt_of_block HMl.out)).trans HMl.out))
    have HC25 := hid ((HCl.out.old HX24.out).keep HK25.out (fun k e e9 => e.2 e9))
    have HSZ25 := hid (show wr.heap.size ≤ w25.heap.size from Nat.le_trans HX24.out.size HK25.out.size)
    clear HMl HCl
    have CS : Hid (∀ V, Below w25.heap.size w25 V → Calls Try.prog 25 #[.agg #[.int .i64 (C.ver + (5 + (i : Int))), .int .i64 (C.nxt + 1), .slice a2 C.tabs.length c2, .slice a3 (C.idxs.length + 1) c3], .int .i64 C.nxt, .int .i64 (5 + (i : Int)), .int .i64 (nextI (5 + (i : Int))), .bool false] V (fun e w' => ∃ a c a' c', e = .returned (.tuple #[.agg #[.int .i64 (C.ver + (5 + (i : Int) + 1)), .int .i64 (C.nxt + 1), .slice a C.tabs.length c, .slice a' (lifD C tid x (lifeZ (i + 1)) false (5 + (i : Int) + 1)).idxs.length c'], .int .i64 0]) ∧ Below V.heap.size V w' ∧ CatN (New V w') w' [.int .i64 (C.ver + (5 + (i : Int) + 1)), .int .i64 (C.nxt + 1), .slice a C.tabs.length c, .slice a' (lifD C tid x (lifeZ (i + 1)) false (5 + (i : Int) + 1)).idxs.length c'] (lifD C tid x (lifeZ (i + 1)) false (5 + (i : Int) + 1)) ∧ CatOk (lifD C tid x (lifeZ (i + 1)) false (5 + (i : Int) + 1)))) := hid (fun V hV => by rw [lifeZ_next hlt]; exact step_D HL.out (HC25.out.old hV) HOl.out ⟨by omega, by omega⟩ (lifeZ (i + 1)) false false (lifeZ_bad hlt) rfl)
    have HKp : Hid (∀ V, Below w25.heap.size w25 V → V.cell? ⟨w20.heap.size, 0, none⟩ = some (.int .i64 (C.ver + (5 + (i : Int)))) ∧ V.cell? ⟨w20.heap.size, 1, none⟩ = some (.int .i64 (C.nxt + 1)) ∧ V.cell? ⟨w20.heap.size, 2, none⟩ = some (.slice a2 C.tabs.length c2) ∧ V.cell? ⟨w20.heap.size, 3, none⟩ = some (.slice a3 (C.idxs.length + 1) c3) ∧ V.cell? ⟨w7.heap.size, 0, none⟩ = some (.int .i64 C.nxt) ∧ V.cell? ⟨w7.heap.size, 1, none⟩ = some (.int .i64 tid) ∧ V.cell? ⟨w7.heap.size, 2, none⟩ = some (.string ⟨x.name.toArray⟩) ∧ V.cell? ⟨w7.heap.size, 3, none⟩ = some (.slice ya3 x.cols.length yc3) ∧ V.cell? ⟨w7.heap.size, 4, none⟩ = some (.bool x.uniq) ∧ V.cell? ⟨w7.heap.size, 5, none⟩ = some (.int .i64 (5 + (i : Int))) ∧ V.cell? ⟨w7.heap.size, 6, none⟩ = some (.bool false)) := hid (fun V hV => by
      have h1 := (hV.block _ (lt_of_block HM25.out)).trans HM25.out
      have h2 := (hV.block _ (lt_of_block HY25.out)).trans HY25.out
      exact ⟨cell_in h1 0 _ rfl, cell_in h1 1 _ rfl, cell_in h1 2 _ rfl, cell_in h1 3 _ rfl, cell_in h2 0 _ rfl, cell_in h2 1 _ rfl, cell_in h2 2 _ rfl, cell_in h2 3 _ rfl, cell_in h2 4 _ rfl, cell_in h2 5 _ rfl, cell_in h2 6 _ rfl⟩)
    go_cut [22, 23] from 208 to 218 (fun s9 e9 wx => ∃ bk a c a' c', s9 = .pointer (some ⟨bk, 0, none⟩) ∧ e9 = .int .i64 0 ∧ w25.heap.size ≤ bk ∧ bk < wx.heap.size ∧ Hid (wx.heap[bk]? = some (.cells #[.int .i64 (C.ver + (5 + (i : Int) + 1)), .int .i64 (C.nxt + 1), .slice a C.tabs.length c, .slice a' (lifD C tid x (lifeZ (i + 1)) false (5 + (i : Int) + 1)).idxs.length c'] 25 (0, 0))) ∧ Hid (Below w25.heap.size w25 wx) ∧ Hid (CatN (fun k => w25.heap.size ≤ k ∧ k ≠ bk) wx [.int .i64 (C.ver + (5 + (i : Int) + 1)), .int .i64 (C.nxt + 1), .slice a C.tabs.length c, .slice a' (lifD C tid x (lifeZ (i + 1)) false (5 + (i : Int) + 1)).idxs.length c'] (lifD C tid x (lifeZ (i + 1)) false (5 + (i : Int) + 1))) ∧ Hid (CatOk (lifD C tid x (lifeZ (i + 1)) false (5 + (i : Int) + 1))))
    case first =>
      as_aux_lemma =>
        refine wp_region_noPanic ?_
        refine wp_region_held_drew (S := fun V => Hid (Below w25.heap.size w25 V)) (by kernel_rfl) (hid (Below.drew (Below.refl _ _))) (fun hHeld => ?_)
        generalize w25.drew = Wd at *
        refine tkH 0 (.agg #[.int .i64 (C.ver + (5 + (i : Int))), .int .i64 (C.nxt + 1), .slice a2 C.tabs.length c2, .slice a3 (C.idxs.length + 1) c3]) rfl (by kernel_rfl) (fun _ _ _ => False.elim) hHeld (Or.inl ⟨by rfl, fun W9 hW => by obtain ⟨q0, q1, q2, q3, q4, q5, q6, q7, q8, q9, q10⟩ := HKp.out _ hW.out; clear hHeld hW; simp only [jA, jB, jC]; go_simp⟩) ?_
        simp only [Act.put, jA, jB, jC, jD, jE, jF]
        refine tkH 1 (.pointer (some ⟨w7.heap.size, 0, none⟩)) rfl (by kernel_rfl) (fun _ _ _ => False.elim) hHeld (Or.inl ⟨by rfl, fun W9 hW => by clear hHeld hW; simp only [jA, jB, jC]; go_simp⟩) ?_
        simp only [Act.put, jA, jB, jC, jD, jE, jF]
        refine tkH 2 (.int .i64 C.nxt) rfl (by kernel_rfl) (fun _ _ _ => False.elim) hHeld (Or.inl ⟨by rfl, fun W9 hW => by obtain ⟨q0, q1, q2, q3, q4, q5, q6, q7, q8, q9, q10⟩ := HKp.out _ hW.out; clear hHeld hW; simp only [jA, jB, jC]; go_simp⟩) ?_
        simp only [Act.put, jA, jB, jC, jD, jE, jF]
        refine tkH 3 (.pointer (some ⟨w7.heap.size, 5, none⟩)) rfl (by kernel_rfl) (fun _ _ _ => False.elim) hHeld (Or.inl ⟨by rfl, fun W9 hW => by clear hHeld hW; simp only [jA, jB, jC]; go_simp⟩) ?_
        simp only [Act.put, jA, jB, jC, jD, jE, jF]
        refine tkH 4 (.int .i64 (5 + (i : Int))) rfl (by kernel_rfl) (fun _ _ _ => False.elim) hHeld (Or.inl ⟨by rfl, fun W9 hW => by obtain ⟨q0, q1, q2, q3, q4, q5, q6, q7, q8, q9, q10⟩ := HKp.out _ hW.out; clear hHeld hW; simp only [jA, jB, jC]; go_simp⟩) ?_
        simp only [Act.put, jA, jB, jC, jD, jE, jF]
        refine tkH 5 (.agg #[.int .i64 C.nxt, .int .i64 tid, .string ⟨x.name.toArray⟩, .slice ya3 x.cols.length yc3, .bool x.uniq, .int .i64 (5 + (i : Int)), .bool false]) rfl (by kernel_rfl) (fun _ _ _ => False.elim) hHeld (Or.inl ⟨by rfl, fun W9 hW => by obtain ⟨q0, q1, q2, q3, q4, q5, q6, q7, q8, q9, q10⟩ := HKp.out _ hW.out; clear hHeld hW; simp only [jA, jB, jC]; go_simp⟩) ?_
        simp only [Act.put, jA, jB, jC, jD, jE, jF]
        refine wpAnyH_ready (rs := [6, 11]) (by kernel_rfl) (by simp) (AllReadyH.cons rfl ?_ (AllReadyH.cons rfl ?_ AllReadyH.nil))
        · intro K hK
          go_simp
          go_wp2_with (first | (go_at_call 22; refine (next_any Wd C.nxt tid (5 + (i : Int)) ⟨x.name.toArray⟩ (.slice ya3 x.cols.length yc3) x.uniq false rfl).mono ?_; rintro en wN ⟨rfl, hbN⟩; have HBN := hid (below_step hHeld.out hbN); have HBV := hid hbN; have HSV := hid hHeld.out.size; clear hbN))
          clear hHeld
          refine hK.out _ _ HBN (fun hHeld => ?_)
          clear hK K
          try simp only [Act.put, jA, jB, jC, jD, jE, jF]
          refine wpAnyH_ready (rs := [7, 11]) (by kernel_rfl) (by simp) (AllReadyH.cons rfl ?_ (AllReadyH.cons rfl ?_ AllReadyH.nil))
          · intro K hK
            go_simp
            go_wp2_with (first | (go_at_call 25; refine (CS.out wN hHeld.out).mono ?_; rintro en wE ⟨da1, dc1, db1, dd1, rfl, hbE, hcE, hoE⟩; have HBE := hid (below_step hHeld.out hbE); have HBX := hid hbE; have HSE := hid hHeld.out.size; have HCE := hid hcE; have HOE := hid hoE; clear hbE hcE hoE))
            clear hHeld
            refine hK.out _ _ HBE (fun hHeld => ?_)
            clear hK K
            try simp only [Act.put, jA, jB, jC, jD, jE, jF]
            refine tkH 8 (.tuple #[.agg #[.int .i64 (C.ver + (5 + (i : Int) + 1)), .int .i64 (C.nxt + 1), .slice da1 C.tabs.length dc1, .slice db1 (lifD C tid x (lifeZ (i + 1)) false (5 + (i : Int) + 1)).idxs.length dd1], .int .i64 0]) rfl (by kernel_rfl) (fun _ _ _ => False.elim) hHeld (Or.inl ⟨by rfl, fun W9 hW => by clear hHeld hW; simp only [jA, jB, jC]; go_simp⟩) ?_
            simp only [Act.put, jA, jB, jC, jD, jE, jF]
            refine tkH 9 (.agg #[.int .i64 (C.ver + (5 + (i : Int) + 1)), .int .i64 (C.nxt + 1), .slice da1 C.tabs.length dc1, .slice db1 (lifD C tid x (lifeZ (i + 1)) false (5 + (i : Int) + 1)).idxs.length dd1]) rfl (by kernel_rfl) (fun _ _ _ => False.elim) hHeld (Or.inl ⟨by rfl, fun W9 hW => by clear hHeld hW; simp only [jA, jB, jC]; go_simp⟩) ?_
            simp only [Act.put, jA, jB, jC, jD, jE, jF]
            refine tkH 10 (.int .i64 0) rfl (by kernel_rfl) (fun _ _ _ => False.elim) hHeld (Or.inl ⟨by rfl, fun W9 hW => by clear hHeld hW; simp only [jA, jB, jC]; go_simp⟩) ?_
            simp only [Act.put, jA, jB, jC, jD, jE, jF]
            refine rdH 11 (by kernel_rfl) rfl fun K hK => ?_
            go_simp
            have hza := heap_alloc_new wE (.cells #[.int .i64 0, .int .i64 0, .slice none 0 0, .slice none 0 0] 25)
            have hsa : (wE.alloc (.cells #[.int .i64 0, .int .i64 0, .slice none 0 0, .slice none 0 0] 25)).heap.size = wE.heap.size + 1 := by simp
            refine hK.out _ _ (hid (hHeld.out.alloc hHeld.out.size (.cells #[.int .i64 0, .int .i64 0, .slice none 0 0, .slice none 0 0] 25))) (fun hHeld2 => ?_)
            clear hK K
            try simp only [Act.put, jA, jB, jC, jD, jE, jF]
            have HCE2 := hid (HCE.out.old ((Below.refl wE.heap.size wE).alloc (Nat.le_refl _) (.cells #[.int .i64 0, .int .i64 0, .slice none 0 0, .slice none 0 0] 25)))
            have hE0 := hHeld.out.size
            generalize wE.alloc (.cells #[.int .i64 0, .int .i64 0, .slice none 0 0, .slice none 0 0] 25) = Wa at *
            clear hHeld HCE
            have hHeld := hHeld2
            have HCE := HCE2
            have HZA := hid hza
            have HSB := hid (show w25.heap.size ≤ wE.heap.size ∧ Wa.heap.size = wE.heap.size + 1 ∧ w25.heap.size ≤ wN.heap.size ∧ wN.heap.size ≤ wE.heap.size from ⟨hE0, hsa, HSE.out, HBX.out.size⟩)
            clear hHeld2 HCE2 hza hsa hE0
            refine rdH 12 (by kernel_rfl) rfl fun K hK => ?_
            rw [if_pos (by rfl)]
            refine Go.wp_store_row _ _ _ rfl wE.heap.size #[.int .i64 (C.ver + (5 + (i : Int) + 1)), .int .i64 (C.nxt + 1), .slice da1 C.tabs.length dc1, .slice db1 (lifD C tid x (lifeZ (i + 1)) false (5 + (i : Int) + 1)).idxs.length dd1] rfl rfl _ _ HZA.out (by kernel_rfl) rfl (by simp [Value.oneCell']) ?_
            have p1 := setRow_heap Wa wE.heap.size _ #[.int .i64 (C.ver + (5 + (i : Int) + 1)), .int .i64 (C.nxt + 1), .slice da1 C.tabs.length dc1, .slice db1 (lifD C tid x (lifeZ (i + 1)) false (5 + (i : Int) + 1)).idxs.length dd1] _ _ HZA.out
            have p2 := life_setRow Wa wE.heap.size #[.int .i64 (C.ver + (5 + (i : Int) + 1)), .int .i64 (C.nxt + 1), .slice da1 C.tabs.length dc1, .slice db1 (lifD C tid x (lifeZ (i + 1)) false (5 + (i : Int) + 1)).idxs.length dd1]
            generalize Wa.setRow wE.heap.size #[.int .i64 (C.ver + (5 + (i : Int) + 1)), .int .i64 (C.nxt + 1), .slice da1 C.tabs.length dc1, .slice db1 (lifD C tid x (lifeZ (i + 1)) false (5 + (i : Int) + 1)).idxs.length dd1] = Wb at *
            have HBW : Hid (Below w25.heap.size w25 Wb) := hid (hHeld.out.trans (p2.below hHeld.out.size (fun k e => by have e9 : k = wE.heap.size := e; have := HSB.out; omega)))
            have HN1 := hid p1
            have HK1 := hid p2
            clear p1 p2 hHeld
            refine hK.out _ _ HBW (fun hHeld => ?_)
            clear hK K
            try simp only [Act.put, jA, jB, jC, jD, jE, jF]
            refine tkH 13 (.int .i64 0) rfl (by kernel_rfl) (fun _ _ _ => False.elim) hHeld (Or.inl ⟨by rfl, fun W9 hW => by clear hHeld hW; simp only [jA, jB, jC]; go_simp⟩) ?_
            simp only [Act.put, jA, jB, jC, jD, jE, jF]
            refine wpAnyH_done (by kernel_rfl) (NoPanic.normal ?_) _
            clear hHeld
            go_wp2_with fail
            go_meet
            exact ⟨wE.heap.size, da1, dc1, db1, dd1, rfl, rfl, by have := HSB.out; omega, by have h1 := HSB.out; have h2 := HK1.out.size; omega, HN1, HBW, hid ((HCE.out.keep HK1.out (fun k e e9 => by have e8 : k = wE.heap.size := e9; have h1 := HSB.out; have h2 := e.1; have h3 := e.2; omega)).mono (fun k e => ⟨by have h1 := HSB.out; have h2 := e.1; omega, by have h1 := HSB.out; have h2 := e.1; have h3 := e.2; omega⟩)), HOE⟩
          · intro K hK
            go_simp
            have hza := heap_alloc_new wN (.cells #[.int .i64 0, .int .i64 0, .slice none 0 0, .slice none 0 0] 25)
            have hsa : (wN.alloc (.cells #[.int .i64 0, .int .i64 0, .slice none 0 0, .slice none 0 0] 25)).heap.size = wN.heap.size + 1 := by simp
            refine hK.out _ _ (hid (hHeld.out.alloc hHeld.out.size (.cells #[.int .i64 0, .int .i64 0, .slice none 0 0, .slice none 0 0] 25))) (fun hHeld2 => ?_)
            clear hK K
            try simp only [Act.put, jA, jB, jC, jD, jE, jF]
            have hE0 := hHeld.out.size
            generalize wN.alloc (.cells #[.int .i64 0, .int .i64 0, .slice none 0 0, .slice none 0 0] 25) = Wa at *
            clear hHeld
            have hHeld := hHeld2
            have HZA := hid hza
            have HS0 := hid (show w25.heap.size ≤ wN.heap.size ∧ Wa.heap.size = wN.heap.size + 1 from ⟨hE0, hsa⟩)
            clear hHeld2 hza hsa hE0
            refine rdH 7 (by kernel_rfl) rfl fun K hK => ?_
            go_simp
            go_wp2_with (first | (go_at_call 25; refine (CS.out Wa hHeld.out).mono ?_; rintro en wE ⟨da1, dc1, db1, dd1, rfl, hbE, hcE, hoE⟩; have HBE := hid (below_step hHeld.out hbE); have HBX := hid hbE; have HSE := hid hHeld.out.size; have HCE := hid hcE; have HOE := hid hoE; clear hbE hcE hoE))
            clear hHeld
            refine hK.out _ _ HBE (fun hHeld => ?_)
            clear hK K
            try simp only [Act.put, jA, jB, jC, jD, jE, jF]
            have HZE := hid ((HBX.out.block _ (lt_of_block HZA.out)).trans HZA.out)
            have HSB := hid (show w25.heap.size ≤ wN.heap.size ∧ Wa.heap.size = wN.heap.size + 1 ∧ Wa.heap.size ≤ wE.heap.size from ⟨HS0.out.1, HS0.out.2, HBX.out.size⟩)
            refine tkH 8 (.tuple #[.agg #[.int .i64 (C.ver + (5 + (i : Int) + 1)), .int .i64 (C.nxt + 1), .slice da1 C.tabs.length dc1, .slice db1 (lifD C tid x (lifeZ (i + 1)) false (5 + (i : Int) + 1)).idxs.length dd1], .int .i64 0]) rfl (by kernel_rfl) (fun _ _ _ => False.elim) hHeld (Or.inl ⟨by rfl, fun W9 hW => by clear hHeld hW; simp only [jA, jB, jC]; go_simp⟩) ?_
            simp only [Act.put, jA, jB, jC, jD, jE, jF]
            refine tkH 9 (.agg #[.int .i64 (C.ver + (5 + (i : Int) + 1)), .int .i64 (C.nxt + 1), .slice da1 C.tabs.length dc1, .slice db1 (lifD C tid x (lifeZ (i + 1)) false (5 + (i : Int) + 1)).idxs.length dd1]) rfl (by kernel_rfl) (fun _ _ _ => False.elim) hHeld (Or.inl ⟨by rfl, fun W9 hW => by clear hHeld hW; simp only [jA, jB, jC]; go_simp⟩) ?_
            simp only [Act.put, jA, jB, jC, jD, jE, jF]
            refine tkH 10 (.int .i64 0) rfl (by kernel_rfl) (fun _ _ _ => False.elim) hHeld (Or.inl ⟨by rfl, fun W9 hW => by clear hHeld hW; simp only [jA, jB, jC]; go_simp⟩) ?_
            simp only [Act.put, jA, jB, jC, jD, jE, jF]
            refine rdH 12 (by kernel_rfl) rfl fun K hK => ?_
            rw [if_pos (by rfl)]
            refine Go.wp_store_row _ _ _ rfl wN.heap.size #[.int .i64 (C.ver + (5 + (i : Int) + 1)), .int .i64 (C.nxt + 1), .slice da1 C.tabs.length dc1, .slice db1 (lifD C tid x (lifeZ (i + 1)) false (5 + (i : Int) + 1)).idxs.length dd1] rfl rfl _ _ HZE.out (by kernel_rfl) rfl (by simp [Value.oneCell']) ?_
            have p1 := setRow_heap wE wN.heap.size _ #[.int .i64 (C.ver + (5 + (i : Int) + 1)), .int .i64 (C.nxt + 1), .slice da1 C.tabs.length dc1, .slice db1 (lifD C tid x (lifeZ (i + 1)) false (5 + (i : Int) + 1)).idxs.length dd1] _ _ HZE.out
            have p2 := life_setRow wE wN.heap.size #[.int .i64 (C.ver + (5 + (i : Int) + 1)), .int .i64 (C.nxt + 1), .slice da1 C.tabs.length dc1, .slice db1 (lifD C tid x (lifeZ (i + 1)) false (5 + (i : Int) + 1)).idxs.length dd1]
            generalize wE.setRow wN.heap.size #[.int .i64 (C.ver + (5 + (i : Int) + 1)), .int .i64 (C.nxt + 1), .slice da1 C.tabs.length dc1, .slice db1 (lifD C tid x (lifeZ (i + 1)) false (5 + (i : Int) + 1)).idxs.length dd1] = Wb at *
            have HBW : Hid (Below w25.heap.size w25 Wb) := hid (hHeld.out.trans (p2.below hHeld.out.size (fun k e => by have e9 : k = wN.heap.size := e; have := HSB.out; omega)))
            have HN1 := hid p1
            have HK1 := hid p2
            clear p1 p2 hHeld
            refine hK.out _ _ HBW (fun hHeld => ?_)
            clear hK K
            try simp only [Act.put, jA, jB, jC, jD, jE, jF]
            refine tkH 13 (.int .i64 0) rfl (by kernel_rfl) (fun _ _ _ => False.elim) hHeld (Or.inl ⟨by rfl, fun W9 hW => by clear hHeld hW; simp only [jA, jB, jC]; go_simp⟩) ?_
            simp only [Act.put, jA, jB, jC, jD, jE, jF]
            refine wpAnyH_done (by kernel_rfl) (NoPanic.normal ?_) _
            clear hHeld
            go_wp2_with fail
            go_meet
            exact ⟨wN.heap.size, da1, dc1, db1, dd1, rfl, rfl, by have := HSB.out; omega, by have h1 := HSB.out; have h2 := HK1.out.size; omega, HN1, HBW, hid ((HCE.out.keep HK1.out (fun k e e9 => by have e8 : k = wN.heap.size := e9; have h1 := HSB.out; have h2 := e.1; have h3 := e.2; omega)).mono (fun k e => ⟨by have h1 := HSB.out; have h2 := e.1; omega, by have h1 := HSB.out; have h2 := e.1; have h3 := e.2; omega⟩)), HOE⟩
        · intro K hK
          go_simp
          have hza := heap_alloc_new Wd (.cells #[.int .i64 0, .int .i64 0, .slice none 0 0, .slice none 0 0] 25)
          have hsa : (Wd.alloc (.cells #[.int .i64 0, .int .i64 0, .slice none 0 0, .slice none 0 0] 25)).heap.size = Wd.heap.size + 1 := by simp
          refine hK.out _ _ (hid (hHeld.out.alloc hHeld.out.size (.cells #[.int .i64 0, .int .i64 0, .slice none 0 0, .slice none 0 0] 25))) (fun hHeld2 => ?_)
          clear hK K
          try simp only [Act.put, jA, jB, jC, jD, jE, jF]
          have hE0 := hHeld.out.size
          generalize Wd.alloc (.cells #[.int .i64 0, .int .i64 0, .slice none 0 0, .slice none 0 0] 25) = Wa at *
          clear hHeld
          have hHeld := hHeld2
          have HZA := hid hza
          have HS0 := hid (show w25.heap.size ≤ Wd.heap.size ∧ Wa.heap.size = Wd.heap.size + 1 from ⟨hE0, hsa⟩)
          clear hHeld2 hza hsa hE0
          refine rdH 6 (by kernel_rfl) rfl fun K hK => ?_
          go_simp
          go_wp2_with (first | (go_at_call 22; refine (next_any Wa C.nxt tid (5 + (i : Int)) ⟨x.name.toArray⟩ (.slice ya3 x.cols.length yc3) x.uniq false rfl).mono ?_; rintro en wN ⟨rfl, hbN⟩; have HBN := hid (below_step hHeld.out hbN); have HBV := hid hbN; have HSV := hid hHeld.out.size; clear hbN))
          clear hHeld
          refine hK.out _ _ HBN (fun hHeld => ?_)
          clear hK K
          try simp only [Act.put, jA, jB, jC, jD, jE, jF]
          have HZN := hid ((HBV.out.block _ (lt_of_block HZA.out)).trans HZA.out)
          refine rdH 7 (by kernel_rfl) rfl fun K hK => ?_
          go_simp
          go_wp2_with (first | (go_at_call 25; refine (CS.out wN hHeld.out).mono ?_; rintro en wE ⟨da1, dc1, db1, dd1, rfl, hbE, hcE, hoE⟩; have HBE := hid (below_step hHeld.out hbE); have HBX := hid hbE; have HSE := hid hHeld.out.size; have HCE := hid hcE; have HOE := hid hoE; clear hbE hcE hoE))
          clear hHeld
          refine hK.out _ _ HBE (fun hHeld => ?_)
          clear hK K
          try simp only [Act.put, jA, jB, jC, jD, jE, jF]
          have HZE := hid ((HBX.out.block _ (lt_of_block HZN.out)).trans HZN.out)
          have HSB := hid (show w25.heap.size ≤ Wd.heap.size ∧ Wa.heap.size = Wd.heap.size + 1 ∧ Wa.heap.size ≤ wN.heap.size ∧ wN.heap.size ≤ wE.heap.size from ⟨HS0.out.1, HS0.out.2, HBV.out.size, HBX.out.size⟩)
          refine tkH 8 (.tuple #[.agg #[.int .i64 (C.ver + (5 + (i : Int) + 1)), .int .i64 (C.nxt + 1), .slice da1 C.tabs.length dc1, .slice db1 (lifD C tid x (lifeZ (i + 1)) false (5 + (i : Int) + 1)).idxs.length dd1], .int .i64 0]) rfl (by kernel_rfl) (fun _ _ _ => False.elim) hHeld (Or.inl ⟨by rfl, fun W9 hW => by clear hHeld hW; simp only [jA, jB, jC]; go_simp⟩) ?_
          simp only [Act.put, jA, jB, jC, jD, jE, jF]
          refine tkH 9 (.agg #[.int .i64 (C.ver + (5 + (i : Int) + 1)), .int .i64 (C.nxt + 1), .slice da1 C.tabs.length dc1, .slice db1 (lifD C tid x (lifeZ (i + 1)) false (5 + (i : Int) + 1)).idxs.length dd1]) rfl (by kernel_rfl) (fun _ _ _ => False.elim) hHeld (Or.inl ⟨by rfl, fun W9 hW => by clear hHeld hW; simp only [jA, jB, jC]; go_simp⟩) ?_
          simp only [Act.put, jA, jB, jC, jD, jE, jF]
          refine tkH 10 (.int .i64 0) rfl (by kernel_rfl) (fun _ _ _ => False.elim) hHeld (Or.inl ⟨by rfl, fun W9 hW => by clear hHeld hW; simp only [jA, jB, jC]; go_simp⟩) ?_
          simp only [Act.put, jA, jB, jC, jD, jE, jF]
          refine rdH 12 (by kernel_rfl) rfl fun K hK => ?_
          rw [if_pos (by rfl)]
          refine Go.wp_store_row _ _ _ rfl Wd.heap.size #[.int .i64 (C.ver + (5 + (i : Int) + 1)), .int .i64 (C.nxt + 1), .slice da1 C.tabs.length dc1, .slice db1 (lifD C tid x (lifeZ (i + 1)) false (5 + (i : Int) + 1)).idxs.length dd1] rfl rfl _ _ HZE.out (by kernel_rfl) rfl (by simp [Value.oneCell']) ?_
          have p1 := setRow_heap wE Wd.heap.size _ #[.int .i64 (C.ver + (5 + (i : Int) + 1)), .int .i64 (C.nxt + 1), .slice da1 C.tabs.length dc1, .slice db1 (lifD C tid x (lifeZ (i + 1)) false (5 + (i : Int) + 1)).idxs.length dd1] _ _ HZE.out
          have p2 := life_setRow wE Wd.heap.size #[.int .i64 (C.ver + (5 + (i : Int) + 1)), .int .i64 (C.nxt + 1), .slice da1 C.tabs.length dc1, .slice db1 (lifD C tid x (lifeZ (i + 1)) false (5 + (i : Int) + 1)).idxs.length dd1]
          generalize wE.setRow Wd.heap.size #[.int .i64 (C.ver + (5 + (i : Int) + 1)), .int .i64 (C.nxt + 1), .slice da1 C.tabs.length dc1, .slice db1 (lifD C tid x (lifeZ (i + 1)) false (5 + (i : Int) + 1)).idxs.length dd1] = Wb at *
          have HBW : Hid (Below w25.heap.size w25 Wb) := hid (hHeld.out.trans (p2.below hHeld.out.size (fun k e => by have e9 : k = Wd.heap.size := e; have := HSB.out; omega)))
          have HN1 := hid p1
          have HK1 := hid p2
          clear p1 p2 hHeld
          refine hK.out _ _ HBW (fun hHeld => ?_)
          clear hK K
          try simp only [Act.put, jA, jB, jC, jD, jE, jF]
          refine tkH 13 (.int .i64 0) rfl (by kernel_rfl) (fun _ _ _ => False.elim) hHeld (Or.inl ⟨by rfl, fun W9 hW => by clear hHeld hW; simp only [jA, jB, jC]; go_simp⟩) ?_
          simp only [Act.put, jA, jB, jC, jD, jE, jF]
          refine wpAnyH_done (by kernel_rfl) (NoPanic.normal ?_) _
          clear hHeld
          go_wp2_with fail
          go_meet
          exact ⟨Wd.heap.size, da1, dc1, db1, dd1, rfl, rfl, by have := HSB.out; omega, by have h1 := HSB.out; have h2 := HK1.out.size; omega, HN1, HBW, hid ((HCE.out.keep HK1.out (fun k e e9 => by have e8 : k = Wd.heap.size := e9; have h1 := HSB.out; have h2 := e.1; have h3 := e.2; omega)).mono (fun k e => ⟨by have h1 := HSB.out; have h2 := e.1; omega, by have h1 := HSB.out; have h2 := e.1; have h3 := e.2; omega⟩)), HOE⟩
    case rest =>
    obtain ⟨bk, a4, c4, a5, c5, rfl, rfl, hm1, hm2, HM26, HX26, HD26, HOD⟩ := hcut
    generalize wc = w26 at *
    have HLM := hid (show w25.heap.size ≤ bk ∧ bk < w26.heap.size from ⟨hm1, hm2⟩)
    clear hm1 hm2
    have HB26 := hid (below_step HB25.out HX26.out)
    have HMm := hid ((HX26.out.block _ (lt_of_block HM25.out)).trans HM25.out)
    have HYm := hid ((HX26.out.block _ (lt_of_block HY25.out)).trans HY25.out)
    have k0 := cell_in HM26.out 0 _ rfl
    have k1 := cell_in HM26.out 1 _ rfl
    have k2 := cell_in HM26.out 2 _ rfl
    have k3 := cell_in HM26.out 3 _ rfl
    have m0 := cell_in HMm.out 0 _ rfl
    have m0f := free_in HMm.out 0
    have m1 := cell_in HMm.out 1 _ rfl
    have m1f := free_in HMm.out 1
    have m2 := cell_in HMm.out 2 _ rfl
    have m2f := free_in HMm.out 2
    have m3 := cell_in HMm.out 3 _ rfl
    have m3f := free_in HMm.out 3
    have hmk : ¬ bk = w20.heap.size := by have h1 := HLM.out; have h2 := HLU.out; have h3 := HSr.out; have h4 := HSZ25.out; omega
    have hmk2 : ¬ w20.heap.size = bk := fun e => hmk e.symm
    go_upto_region 30 with fail
    obtain ⟨p1, p2⟩ := put4 HMm.out (.int .i64 (C.ver + (5 + (i : Int) + 1))) (.int .i64 (C.nxt + 1)) (.slice a4 C.tabs.length c4) (.slice a5 (lifD C tid x (lifeZ (i + 1)) false (5 + (i : Int) + 1)).idxs.length c5)
    generalize (((w26.setCell ⟨w20.heap.size, 0, none⟩ (.int .i64 (C.ver + (5 + (i : Int) + 1)))).setCell ⟨w20.heap.size, 1, none⟩ (.int .i64 (C.nxt + 1))).setCell ⟨w20.heap.size, 2, none⟩ (.slice a4 C.tabs.length c4)).setCell ⟨w20.heap.size, 3, none⟩ (.slice a5 (lifD C tid x (lifeZ (i + 1)) false (5 + (i : Int) + 1)).idxs.length c5) = w27 at *
    have HM27 := hid p1
    have HK27 := hid p2
    clear p1 p2 k0 k1 k2 k3 m0 m1 m2 m3 m0f m1f m2f m3f hmk hmk2
    have e4 : (5 + (i : Int) + 1) = 5 + ((i + 1 : Nat) : Int) := by omega
    have HRM : Hid (w27.heap[w20.heap.size]? = some (.cells #[.int .i64 (C.ver + (5 + ((i + 1 : Nat) : Int))), .int .i64 (C.nxt + 1), .slice a4 C.tabs.length c4, .slice a5 (lifD C tid x (lifeZ (i + 1)) false (5 + ((i + 1 : Nat) : Int))).idxs.length c5] 25 (0, 0))) := hid (by rw [← e4]; exact HM27.out)
    have HRY := hid ((HK27.out.block _ (lt_of_block HYm.out) (fun e => by have e9 : w7.heap.size = w20.heap.size := e; have := HLU.out; omega)).trans HYm.out)
    have HRK : Hid (Keep (fun k => k = w20.heap.size ∨ k = w7.heap.size) w23 w27) := hid ((((HKr.out.trans (Keep.of_below HX24.out)).trans (HK25.out.mono (fun k _ e => Or.inr e))).trans (Keep.of_below HX26.out)).trans (HK27.out.mono (fun k _ e => Or.inl e)))
    have HRC : Hid (CatN (fun k => k ≠ w20.heap.size ∧ k ≠ w7.heap.size) w27 [.int .i64 (C.ver + (5 + ((i + 1 : Nat) : Int))), .int .i64 (C.nxt + 1), .slice a4 C.tabs.length c4, .slice a5 (lifD C tid x (lifeZ (i + 1)) false (5 + ((i + 1 : Nat) : Int))).idxs.length c5] (lifD C tid x (lifeZ (i + 1)) false (5 + ((i + 1 : Nat) : Int)))) := hid (by
      rw [← e4]
      exact (HD26.out.keep HK27.out (fun k e e9 => by have e8 : k = w20.heap.size := e9; have h1 := e.1; have h2 := HLU.out; have h3 := HSr.out; have h4 := HSZ25.out; omega)).mono (fun k e => by have h1 := e.1; have h2 := HLU.out; have h3 := HSr.out; have h4 := HSZ25.out; exact ⟨by omega, by omega⟩))
    have HRO : Hid (CatOk (lifD C tid x (lifeZ (i + 1)) false (5 + ((i + 1 : Nat) : Int)))) := hid (by rw [← e4]; exact HOD.out)
    clear e4
    go_wp2_with fail
    go_roundw
    case rel => exact ⟨i + 1, a4, c4, a5, c5, _, _, _, _, _, _, _, by omega, by go_num, HRM, HRY, HRK, HRC, HRO⟩
    case measure => simp [intOf]; omega
  obtain ⟨z, hz⟩ : ∃ z, (lifeL bad)[i]? = some z := ⟨_, List.getElem?_eq_getElem hlt⟩
  have HZS := hid hz
  clear hz
  have hki : (i : Int) < ((lifeL bad).length : Int) := by omega
  go_upto_region 15 with fail
  have HRD := hid (life_round (C := C) (tid := tid) (x := x) HST.out HZS.out)
  have HCL := hid (HKr.out.cell' (b := bs) (o := i) (fun e => by have e9 : bs = w5.heap.size ∨ bs = w7.heap.size := e; have := HLT.out; omega) (HSC.out i z HZS.out))
  have CS : Hid (∀ V, Below wr.heap.size wr V → Calls Try.prog 25 #[.agg #[.int .i64 (C.ver + (1 + (i : Int))), .int .i64 (C.nxt + 1), .slice a2 C.tabs.length c2, .slice a3 (C.idxs.length + 1) c3], .int .i64 C.nxt, .int .i64 st, .int .i64 z, .bool (bad && (z == 6))] V (fun e w' => ∃ a c a' c', e = .returned (.tuple #[.agg #[.int .i64 (C.ver + (1 + (i : Int) + 1)), .int .i64 (C.nxt + 1), .slice a C.tabs.length c, .slice a' (lifD C tid x z (bad && decide (2 ≤ i)) (1 + (i : Int) + 1)).idxs.length c'], .int .i64 0]) ∧ Below V.heap.size V w' ∧ CatN (New V w') w' [.int .i64 (C.ver + (1 + (i : Int) + 1)), .int .i64 (C.nxt + 1), .slice a C.tabs.length c, .slice a' (lifD C tid x z (bad && decide (2 ≤ i)) (1 + (i : Int) + 1)).idxs.length c'] (lifD C tid x z (bad && decide (2 ≤ i)) (1 + (i : Int) + 1)) ∧ CatOk (lifD C tid x z (bad && decide (2 ≤ i)) (1 + (i : Int) + 1)))) := hid (fun V hV => step_D HL.out (HCr.out.old hV) HOKr.out ⟨by omega, by omega⟩ z (bad && (z == 6)) (bad && decide (2 ≤ i)) HRD.out.1 HRD.out.2.1)
  have HKp : Hid (∀ V, Below wr.heap.size wr V → V.cell? ⟨w5.heap.size, 0, none⟩ = some (.int .i64 (C.ver + (1 + (i : Int)))) ∧ V.cell? ⟨w5.heap.size, 1, none⟩ = some (.int .i64 (C.nxt + 1)) ∧ V.cell? ⟨w5.heap.size, 2, none⟩ = some (.slice a2 C.tabs.length c2) ∧ V.cell? ⟨w5.heap.size, 3, none⟩ = some (.slice a3 (C.idxs.length + 1) c3) ∧ V.cell? ⟨w7.heap.size, 0, none⟩ = some (.int .i64 C.nxt) ∧ V.cell? ⟨w7.heap.size, 5, none⟩ = some (.int .i64 st) ∧ V.cell? ⟨bs, i, none⟩ = some (.int .i64 z)) := hid (fun V hV => by
    have h1 := (hV.block _ (lt_of_block HNr.out)).trans HNr.out
    have h2 := (hV.block _ (lt_of_block HYr.out)).trans HYr.out
    exact ⟨cell_in h1 0 _ rfl, cell_in h1 1 _ rfl, cell_in h1 2 _ rfl, cell_in h1 3 _ rfl, cell_in h2 0 _ rfl, cell_in h2 5 _ rfl, (hV.cell (block_cell HCL.out)).trans HCL.out⟩)
  go_cut [15, 16] from 93 to 113 (fun s9 e9 wx => ∃ bm a c a' c', s9 = .pointer (some ⟨bm, 0, none⟩) ∧ e9 = .int .i64 0 ∧ wr.heap.size ≤ bm ∧ bm < wx.heap.size ∧ Hid (wx.heap[bm]? = some (.cells #[.int .i64 (C.ver + (1 + (i : Int) + 1)), .int .i64 (C.nxt + 1), .slice a C.tabs.length c, .slice a' (lifD C tid x z (bad && decide (2 ≤ i)) (1 + (i : Int) + 1)).idxs.length c'] 25 (0, 0))) ∧ Hid (Below wr.heap.size wr wx) ∧ Hid (CatN (fun k => wr.heap.size ≤ k ∧ k ≠ bm) wx [.int .i64 (C.ver + (1 + (i : Int) + 1)), .int .i64 (C.nxt + 1), .slice a C.tabs.length c, .slice a' (lifD C tid x z (bad && decide (2 ≤ i)) (1 + (i : Int) + 1)).idxs.length c'] (lifD C tid x z (bad && decide (2 ≤ i)) (1 + (i : Int) + 1))) ∧ Hid (CatOk (lifD C tid x z (bad && decide (2 ≤ i)) (1 + (i : Int) + 1))))
  case first =>
    as_aux_lemma =>
      cases bad with
      | true =>
        refine wp_region_noPanic ?_
        refine wp_region_held_drew (S := fun V => Hid (Below wr.heap.size wr V)) (by kernel_rfl) (hid (Below.drew (Below.refl _ _))) (fun hHeld => ?_)
        generalize wr.drew = Wd at *
        refine tkH 0 (.agg #[.int .i64 (C.ver + (1 + (i : Int))), .int .i64 (C.nxt + 1), .slice a2 C.tabs.length c2, .slice a3 (C.idxs.length + 1) c3]) rfl (by kernel_rfl) (fun _ _ _ => False.elim) hHeld (Or.inl ⟨by rfl, fun W9 hW => by obtain ⟨q0, q1, q2, q3, q4, q5, q6⟩ := HKp.out _ hW.out; clear hHeld hW; simp only [jA, jB, jC]; go_simp⟩) ?_
        simp only [Act.put, jA, jB, jC, jD, jE, jF]
        refine tkH 1 (.pointer (some ⟨w7.heap.size, 0, none⟩)) rfl (by kernel_rfl) (fun _ _ _ => False.elim) hHeld (Or.inl ⟨by rfl, fun W9 hW => by clear hHeld hW; simp only [jA, jB, jC]; go_simp⟩) ?_
        simp only [Act.put, jA, jB, jC, jD, jE, jF]
        refine tkH 2 (.int .i64 C.nxt) rfl (by kernel_rfl) (fun _ _ _ => False.elim) hHeld (Or.inl ⟨by rfl, fun W9 hW => by obtain ⟨q0, q1, q2, q3, q4, q5, q6⟩ := HKp.out _ hW.out; clear hHeld hW; simp only [jA, jB, jC]; go_simp⟩) ?_
        simp only [Act.put, jA, jB, jC, jD, jE, jF]
        refine tkH 3 (.pointer (some ⟨w7.heap.size, 5, none⟩)) rfl (by kernel_rfl) (fun _ _ _ => False.elim) hHeld (Or.inl ⟨by rfl, fun W9 hW => by clear hHeld hW; simp only [jA, jB, jC]; go_simp⟩) ?_
        simp only [Act.put, jA, jB, jC, jD, jE, jF]
        refine tkH 4 (.int .i64 st) rfl (by kernel_rfl) (fun _ _ _ => False.elim) hHeld (Or.inl ⟨by rfl, fun W9 hW => by obtain ⟨q0, q1, q2, q3, q4, q5, q6⟩ := HKp.out _ hW.out; clear hHeld hW; simp only [jA, jB, jC]; go_simp⟩) ?_
        simp only [Act.put, jA, jB, jC, jD, jE, jF]
        refine tkH 5 (.slice (some ⟨bs, 0, none⟩) (lifeL true).length cs) rfl (by kernel_rfl) (fun _ _ _ => False.elim) hHeld (Or.inl ⟨by rfl, fun W9 hW => by clear hHeld hW; simp only [jA, jB, jC]; go_simp⟩) ?_
        simp only [Act.put, jA, jB, jC, jD, jE, jF]
        refine tkH 6 (.int .i64 (i : Int)) rfl (by kernel_rfl) (fun _ _ _ => False.elim) hHeld (Or.inl ⟨by rfl, fun W9 hW => by clear hHeld hW; simp only [jA, jB, jC]; go_simp⟩) ?_
        simp only [Act.put, jA, jB, jC, jD, jE, jF]
        refine tkH 7 (.pointer (some ⟨bs, i, none⟩)) rfl (by kernel_rfl) (fun _ _ _ => False.elim) hHeld (Or.inl ⟨by rfl, fun W9 hW => by clear hHeld hW; simp only [jA, jB, jC]; go_simp⟩) ?_
        simp only [Act.put, jA, jB, jC, jD, jE, jF]
        refine tkH 8 (.int .i64 z) rfl (by kernel_rfl) (fun _ _ _ => False.elim) hHeld (Or.inl ⟨by rfl, fun W9 hW => by obtain ⟨q0, q1, q2, q3, q4, q5, q6⟩ := HKp.out _ hW.out; clear hHeld hW; simp only [jA, jB, jC]; go_simp⟩) ?_
        simp only [Act.put, jA, jB, jC, jD, jE, jF]
        refine tkH 9 (.bool true) rfl (by kernel_rfl) (fun _ _ _ => False.elim) hHeld (Or.inl ⟨by rfl, fun W9 hW => by clear hHeld hW; simp only [jA, jB, jC]; go_simp⟩) ?_
        simp only [Act.put, jA, jB, jC, jD, jE, jF]
        refine tkH 10 (.bool true) rfl (by kernel_rfl) (fun _ _ _ => False.elim) hHeld (Or.inl ⟨by rfl, fun W9 hW => by clear hHeld hW; simp only [jA, jB, jC]; go_simp⟩) ?_
        simp only [Act.put, jA, jB, jC, jD, jE, jF]
        refine tkH 11 (.slice (some ⟨bs, 0, none⟩) (lifeL true).length cs) rfl (by kernel_rfl) (fun _ _ _ => False.elim) hHeld (Or.inl ⟨by rfl, fun W9 hW => by clear hHeld hW; simp only [jA, jB, jC]; go_simp⟩) ?_
        simp only [Act.put, jA, jB, jC, jD, jE, jF]
        refine tkH 12 (.int .i64 (i : Int)) rfl (by kernel_rfl) (fun _ _ _ => False.elim) hHeld (Or.inl ⟨by rfl, fun W9 hW => by clear hHeld hW; simp only [jA, jB, jC]; go_simp⟩) ?_
        simp only [Act.put, jA, jB, jC, jD, jE, jF]
        refine tkH 13 (.pointer (some ⟨bs, i, none⟩)) rfl (by kernel_rfl) (fun _ _ _ => False.elim) hHeld (Or.inl ⟨by rfl, fun W9 hW => by clear hHeld hW; simp only [jA, jB, jC]; go_simp⟩) ?_
        simp only [Act.put, jA, jB, jC, jD, jE, jF]
        refine tkH 14 (.int .i64 z) rfl (by kernel_rfl) (fun _ _ _ => False.elim) hHeld (Or.inl ⟨by rfl, fun W9 hW => by obtain ⟨q0, q1, q2, q3, q4, q5, q6⟩ := HKp.out _ hW.out; clear hHeld hW; simp only [jA, jB, jC]; go_simp⟩) ?_
        simp only [Act.put, jA, jB, jC, jD, jE, jF]
        refine tkH 15 (.bool ((z == 6))) rfl (by kernel_rfl) (fun _ _ _ => False.elim) hHeld (Or.inl ⟨by rfl, fun W9 hW => by clear hHeld hW; simp only [jA, jB, jC]; go_simp⟩) ?_
        simp only [Act.put, jA, jB, jC, jD, jE, jF]
        refine tkH 16 (.bool (true && (z == 6))) rfl (by kernel_rfl) (fun _ _ _ => False.elim) hHeld (Or.inl ⟨by rfl, fun W9 hW => by clear hHeld hW; simp only [jA, jB, jC]; go_simp⟩) ?_
        simp only [Act.put, jA, jB, jC, jD, jE, jF]
        refine wpAnyH_ready (rs := [17, 21]) (by kernel_rfl) (by simp) (AllReadyH.cons rfl ?_ (AllReadyH.cons rfl ?_ AllReadyH.nil))
        · intro K hK
          go_simp
          go_wp2_with (first | (go_at_call 25; refine (CS.out Wd hHeld.out).mono ?_; rintro en wE ⟨da, dc, db, dd, rfl, hbE, hcE, hoE⟩; have HBE := hid (below_step hHeld.out hbE); have HBX := hid hbE; have HSE := hid hHeld.out.size; have HCE := hid hcE; have HOE := hid hoE; clear hbE hcE hoE))
          clear hHeld
          refine hK.out _ _ HBE (fun hHeld => ?_)
          clear hK K
          try simp only [Act.put, jA, jB, jC, jD, jE, jF]
          refine tkH 18 (.tuple #[.agg #[.int .i64 (C.ver + (1 + (i : Int) + 1)), .int .i64 (C.nxt + 1), .slice da C.tabs.length dc, .slice db (lifD C tid x z (true && decide (2 ≤ i)) (1 + (i : Int) + 1)).idxs.length dd], .int .i64 0]) rfl (by kernel_rfl) (fun _ _ _ => False.elim) hHeld (Or.inl ⟨by rfl, fun W9 hW => by clear hHeld hW; simp only [jA, jB, jC]; go_simp⟩) ?_
          simp only [Act.put, jA, jB, jC, jD, jE, jF]
          refine tkH 19 (.agg #[.int .i64 (C.ver + (1 + (i : Int) + 1)), .int .i64 (C.nxt + 1), .slice da C.tabs.length dc, .slice db (lifD C tid x z (true && decide (2 ≤ i)) (1 + (i : Int) + 1)).idxs.length dd]) rfl (by kernel_rfl) (fun _ _ _ => False.elim) hHeld (Or.inl ⟨by rfl, fun W9 hW => by clear hHeld hW; simp only [jA, jB, jC]; go_simp⟩) ?_
          simp only [Act.put, jA, jB, jC, jD, jE, jF]
          refine tkH 20 (.int .i64 0) rfl (by kernel_rfl) (fun _ _ _ => False.elim) hHeld (Or.inl ⟨by rfl, fun W9 hW => by clear hHeld hW; simp only [jA, jB, jC]; go_simp⟩) ?_
          simp only [Act.put, jA, jB, jC, jD, jE, jF]
          refine rdH 21 (by kernel_rfl) rfl fun K hK => ?_
          go_simp
          have hza := heap_alloc_new wE (.cells #[.int .i64 0, .int .i64 0, .slice none 0 0, .slice none 0 0] 25)
          have hsa : (wE.alloc (.cells #[.int .i64 0, .int .i64 0, .slice none 0 0, .slice none 0 0] 25)).heap.size = wE.heap.size + 1 := by simp
          refine hK.out _ _ (hid (hHeld.out.alloc hHeld.out.size (.cells #[.int .i64 0, .int .i64 0, .slice none 0 0, .slice none 0 0] 25))) (fun hHeld2 => ?_)
          clear hK K
          try simp only [Act.put, jA, jB, jC, jD, jE, jF]
          have HCE2 := hid (HCE.out.old ((Below.refl wE.heap.size wE).alloc (Nat.le_refl _) (.cells #[.int .i64 0, .int .i64 0, .slice none 0 0, .slice none 0 0] 25)))
          have hE0 := hHeld.out.size
          generalize wE.alloc (.cells #[.int .i64 0, .int .i64 0, .slice none 0 0, .slice none 0 0] 25) = Wa at *
          clear hHeld HCE
          have hHeld := hHeld2
          have HCE := HCE2
          have HZA := hid hza
          have HSB := hid (show wr.heap.size ≤ wE.heap.size ∧ Wa.heap.size = wE.heap.size + 1 ∧ wr.heap.size ≤ Wd.heap.size ∧ Wd.heap.size ≤ wE.heap.size from ⟨hE0, hsa, HSE.out, HBX.out.size⟩)
          clear hHeld2 HCE2 hza hsa hE0
          refine rdH 22 (by kernel_rfl) rfl fun K hK => ?_
          rw [if_pos (by rfl)]
          refine Go.wp_store_row _ _ _ rfl wE.heap.size #[.int .i64 (C.ver + (1 + (i : Int) + 1)), .int .i64 (C.nxt + 1), .slice da C.tabs.length dc, .slice db (lifD C tid x z (true && decide (2 ≤ i)) (1 + (i : Int) + 1)).idxs.length dd] rfl rfl _ _ HZA.out (by kernel_rfl) rfl (by simp [Value.oneCell']) ?_
          have p1 := setRow_heap Wa wE.heap.size _ #[.int .i64 (C.ver + (1 + (i : Int) + 1)), .int .i64 (C.nxt + 1), .slice da C.tabs.length dc, .slice db (lifD C tid x z (true && decide (2 ≤ i)) (1 + (i : Int) + 1)).idxs.length dd] _ _ HZA.out
          have p2 := life_setRow Wa wE.heap.size #[.int .i64 (C.ver + (1 + (i : Int) + 1)), .int .i64 (C.nxt + 1), .slice da C.tabs.length dc, .slice db (lifD C tid x z (true && decide (2 ≤ i)) (1 + (i : Int) + 1)).idxs.length dd]
          generalize Wa.setRow wE.heap.size #[.int .i64 (C.ver + (1 + (i : Int) + 1)), .int .i64 (C.nxt + 1), .slice da C.tabs.length dc, .slice db (lifD C tid x z (true && decide (2 ≤ i)) (1 + (i : Int) + 1)).idxs.length dd] = Wb at *
          have HBW : Hid (Below wr.heap.size wr Wb) := hid (hHeld.out.trans (p2.below hHeld.out.size (fun k e => by have e9 : k = wE.heap.size := e; have := HSB.out; omega)))
          have HN1 := hid p1
          have HK1 := hid p2
          clear p1 p2 hHeld
          refine hK.out _ _ HBW (fun hHeld => ?_)
          clear hK K
          try simp only [Act.put, jA, jB, jC, jD, jE, jF]
          refine tkH 23 (.int .i64 0) rfl (by kernel_rfl) (fun _ _ _ => False.elim) hHeld (Or.inl ⟨by rfl, fun W9 hW => by clear hHeld hW; simp only [jA, jB, jC]; go_simp⟩) ?_
          simp only [Act.put, jA, jB, jC, jD, jE, jF]
          refine wpAnyH_done (by kernel_rfl) (NoPanic.normal ?_) _
          clear hHeld
          go_wp2_with fail
          go_meet
          exact ⟨wE.heap.size, da, dc, db, dd, rfl, rfl, by have := HSB.out; omega, by have h1 := HSB.out; have h2 := HK1.out.size; omega, HN1, HBW, hid ((HCE.out.keep HK1.out (fun k e e9 => by have e8 : k = wE.heap.size := e9; have h1 := HSB.out; have h2 := e.1; have h3 := e.2; omega)).mono (fun k e => ⟨by have h1 := HSB.out; have h2 := e.1; omega, by have h1 := HSB.out; have h2 := e.1; have h3 := e.2; omega⟩)), HOE⟩
        · intro K hK
          go_simp
          have hza := heap_alloc_new Wd (.cells #[.int .i64 0, .int .i64 0, .slice none 0 0, .slice none 0 0] 25)
          have hsa : (Wd.alloc (.cells #[.int .i64 0, .int .i64 0, .slice none 0 0, .slice none 0 0] 25)).heap.size = Wd.heap.size + 1 := by simp
          refine hK.out _ _ (hid (hHeld.out.alloc hHeld.out.size (.cells #[.int .i64 0, .int .i64 0, .slice none 0 0, .slice none 0 0] 25))) (fun hHeld2 => ?_)
          clear hK K
          try simp only [Act.put, jA, jB, jC, jD, jE, jF]
          have hE0 := hHeld.out.size
          generalize Wd.alloc (.cells #[.int .i64 0, .int .i64 0, .slice none 0 0, .slice none 0 0] 25) = Wa at *
          clear hHeld
          have hHeld := hHeld2
          have HZA := hid hza
          have HS0 := hid (show wr.heap.size ≤ Wd.heap.size ∧ Wa.heap.size = Wd.heap.size + 1 from ⟨hE0, hsa⟩)
          clear hHeld2 hza hsa hE0
          refine rdH 17 (by kernel_rfl) rfl fun K hK => ?_
          go_simp
          go_wp2_with (first | (go_at_call 25; refine (CS.out Wa hHeld.out).mono ?_; rintro en wE ⟨da, dc, db, dd, rfl, hbE, hcE, hoE⟩; have HBE := hid (below_step hHeld.out hbE); have HBX := hid hbE; have HSE := hid hHeld.out.size; have HCE := hid hcE; have HOE := hid hoE; clear hbE hcE hoE))
          clear hHeld
          refine hK.out _ _ HBE (fun hHeld => ?_)
          clear hK K
          try simp only [Act.put, jA, jB, jC, jD, jE, jF]
          have HZE := hid ((HBX.out.block _ (lt_of_block HZA.out)).trans HZA.out)
          have HSB := hid (show wr.heap.size ≤ Wd.heap.size ∧ Wa.heap.size = Wd.heap.size + 1 ∧ Wa.heap.size ≤ wE.heap.size from ⟨HS0.out.1, HS0.out.2, HBX.out.size⟩)
          refine tkH 18 (.tuple #[.agg #[.int .i64 (C.ver + (1 + (i : Int) + 1)), .int .i64 (C.nxt + 1), .slice da C.tabs.length dc, .slice db (lifD C tid x z (true && decide (2 ≤ i)) (1 + (i : Int) + 1)).idxs.length dd], .int .i64 0]) rfl (by kernel_rfl) (fun _ _ _ => False.elim) hHeld (Or.inl ⟨by rfl, fun W9 hW => by clear hHeld hW; simp only [jA, jB, jC]; go_simp⟩) ?_
          simp only [Act.put, jA, jB, jC, jD, jE, jF]
          refine tkH 19 (.agg #[.int .i64 (C.ver + (1 + (i : Int) + 1)), .int .i64 (C.nxt + 1), .slice da C.tabs.length dc, .slice db (lifD C tid x z (true && decide (2 ≤ i)) (1 + (i : Int) + 1)).idxs.length dd]) rfl (by kernel_rfl) (fun _ _ _ => False.elim) hHeld (Or.inl ⟨by rfl, fun W9 hW => by clear hHeld hW; simp only [jA, jB, jC]; go_simp⟩) ?_
          simp only [Act.put, jA, jB, jC, jD, jE, jF]
          refine tkH 20 (.int .i64 0) rfl (by kernel_rfl) (fun _ _ _ => False.elim) hHeld (Or.inl ⟨by rfl, fun W9 hW => by clear hHeld hW; simp only [jA, jB, jC]; go_simp⟩) ?_
          simp only [Act.put, jA, jB, jC, jD, jE, jF]
          refine rdH 22 (by kernel_rfl) rfl fun K hK => ?_
          rw [if_pos (by rfl)]
          refine Go.wp_store_row _ _ _ rfl Wd.heap.size #[.int .i64 (C.ver + (1 + (i : Int) + 1)), .int .i64 (C.nxt + 1), .slice da C.tabs.length dc, .slice db (lifD C tid x z (true && decide (2 ≤ i)) (1 + (i : Int) + 1)).idxs.length dd] rfl rfl _ _ HZE.out (by kernel_rfl) rfl (by simp [Value.oneCell']) ?_
          have p1 := setRow_heap wE Wd.heap.size _ #[.int .i64 (C.ver + (1 + (i : Int) + 1)), .int .i64 (C.nxt + 1), .slice da C.tabs.length dc, .slice db (lifD C tid x z (true && decide (2 ≤ i)) (1 + (i : Int) + 1)).idxs.length dd] _ _ HZE.out
          have p2 := life_setRow wE Wd.heap.size #[.int .i64 (C.ver + (1 + (i : Int) + 1)), .int .i64 (C.nxt + 1), .slice da C.tabs.length dc, .slice db (lifD C tid x z (true && decide (2 ≤ i)) (1 + (i : Int) + 1)).idxs.length dd]
          generalize wE.setRow Wd.heap.size #[.int .i64 (C.ver + (1 + (i : Int) + 1)), .int .i64 (C.nxt + 1), .slice da C.tabs.length dc, .slice db (lifD C tid x z (true && decide (2 ≤ i)) (1 + (i : Int) + 1)).idxs.length dd] = Wb at *
          have HBW : Hid (Below wr.heap.size wr Wb) := hid (hHeld.out.trans (p2.below hHeld.out.size (fun k e => by have e9 : k = Wd.heap.size := e; have := HSB.out; omega)))
          have HN1 := hid p1
          have HK1 := hid p2
          clear p1 p2 hHeld
          refine hK.out _ _ HBW (fun hHeld => ?_)
          clear hK K
          try simp only [Act.put, jA, jB, jC, jD, jE, jF]
          refine tkH 23 (.int .i64 0) rfl (by kernel_rfl) (fun _ _ _ => False.elim) hHeld (Or.inl ⟨by rfl, fun W9 hW => by clear hHeld hW; simp only [jA, jB, jC]; go_simp⟩) ?_
          simp only [Act.put, jA, jB, jC, jD, jE, jF]
          refine wpAnyH_done (by kernel_rfl) (NoPanic.normal ?_) _
          clear hHeld
          go_wp2_with fail
          go_meet
          exact ⟨Wd.heap.size, da, dc, db, dd, rfl, rfl, by have := HSB.out; omega, by have h1 := HSB.out; have h2 := HK1.out.size; omega, HN1, HBW, hid ((HCE.out.keep HK1.out (fun k e e9 => by have e8 : k = Wd.heap.size := e9; have h1 := HSB.out; have h2 := e.1; have h3 := e.2; omega)).mono (fun k e => ⟨by have h1 := HSB.out; have h2 := e.1; omega, by have h1 := HSB.out; have h2 := e.1; have h3 := e.2; omega⟩)), HOE⟩
      | false =>
        refine wp_region_noPanic ?_
        refine wp_region_held_drew (S := fun V => Hid (Below wr.heap.size wr V)) (by kernel_rfl) (hid (Below.drew (Below.refl _ _))) (fun hHeld => ?_)
        generalize wr.drew = Wd at *
        refine tkH 0 (.agg #[.int .i64 (C.ver + (1 + (i : Int))), .int .i64 (C.nxt + 1), .slice a2 C.tabs.length c2, .slice a3 (C.idxs.length + 1) c3]) rfl (by kernel_rfl) (fun _ _ _ => False.elim) hHeld (Or.inl ⟨by rfl, fun W9 hW => by obtain ⟨q0, q1, q2, q3, q4, q5, q6⟩ := HKp.out _ hW.out; clear hHeld hW; simp only [jA, jB, jC]; go_simp⟩) ?_
        simp only [Act.put, jA, jB, jC, jD, jE, jF]
        refine tkH 1 (.pointer (some ⟨w7.heap.size, 0, none⟩)) rfl (by kernel_rfl) (fun _ _ _ => False.elim) hHeld (Or.inl ⟨by rfl, fun W9 hW => by clear hHeld hW; simp only [jA, jB, jC]; go_simp⟩) ?_
        simp only [Act.put, jA, jB, jC, jD, jE, jF]
        refine tkH 2 (.int .i64 C.nxt) rfl (by kernel_rfl) (fun _ _ _ => False.elim) hHeld (Or.inl ⟨by rfl, fun W9 hW => by obtain ⟨q0, q1, q2, q3, q4, q5, q6⟩ := HKp.out _ hW.out; clear hHeld hW; simp only [jA, jB, jC]; go_simp⟩) ?_
        simp only [Act.put, jA, jB, jC, jD, jE, jF]
        refine tkH 3 (.pointer (some ⟨w7.heap.size, 5, none⟩)) rfl (by kernel_rfl) (fun _ _ _ => False.elim) hHeld (Or.inl ⟨by rfl, fun W9 hW => by clear hHeld hW; simp only [jA, jB, jC]; go_simp⟩) ?_
        simp only [Act.put, jA, jB, jC, jD, jE, jF]
        refine tkH 4 (.int .i64 st) rfl (by kernel_rfl) (fun _ _ _ => False.elim) hHeld (Or.inl ⟨by rfl, fun W9 hW => by obtain ⟨q0, q1, q2, q3, q4, q5, q6⟩ := HKp.out _ hW.out; clear hHeld hW; simp only [jA, jB, jC]; go_simp⟩) ?_
        simp only [Act.put, jA, jB, jC, jD, jE, jF]
        refine tkH 5 (.slice (some ⟨bs, 0, none⟩) (lifeL false).length cs) rfl (by kernel_rfl) (fun _ _ _ => False.elim) hHeld (Or.inl ⟨by rfl, fun W9 hW => by clear hHeld hW; simp only [jA, jB, jC]; go_simp⟩) ?_
        simp only [Act.put, jA, jB, jC, jD, jE, jF]
        refine tkH 6 (.int .i64 (i : Int)) rfl (by kernel_rfl) (fun _ _ _ => False.elim) hHeld (Or.inl ⟨by rfl, fun W9 hW => by clear hHeld hW; simp only [jA, jB, jC]; go_simp⟩) ?_
        simp only [Act.put, jA, jB, jC, jD, jE, jF]
        refine tkH 7 (.pointer (some ⟨bs, i, none⟩)) rfl (by kernel_rfl) (fun _ _ _ => False.elim) hHeld (Or.inl ⟨by rfl, fun W9 hW => by clear hHeld hW; simp only [jA, jB, jC]; go_simp⟩) ?_
        simp only [Act.put, jA, jB, jC, jD, jE, jF]
        refine tkH 8 (.int .i64 z) rfl (by kernel_rfl) (fun _ _ _ => False.elim) hHeld (Or.inl ⟨by rfl, fun W9 hW => by obtain ⟨q0, q1, q2, q3, q4, q5, q6⟩ := HKp.out _ hW.out; clear hHeld hW; simp only [jA, jB, jC]; go_simp⟩) ?_
        simp only [Act.put, jA, jB, jC, jD, jE, jF]
        refine tkH 9 (.bool false) rfl (by kernel_rfl) (fun _ _ _ => False.elim) hHeld (Or.inl ⟨by rfl, fun W9 hW => by clear hHeld hW; simp only [jA, jB, jC]; go_simp⟩) ?_
        simp only [Act.put, jA, jB, jC, jD, jE, jF]
        refine tkH 10 (.bool false) rfl (by kernel_rfl) (fun _ _ _ => False.elim) hHeld (Or.inl ⟨by rfl, fun W9 hW => by clear hHeld hW; simp only [jA, jB, jC]; go_simp⟩) ?_
        simp only [Act.put, jA, jB, jC, jD, jE, jF]
        refine tkH 11 (undef) rfl (by kernel_rfl) (fun _ _ _ => False.elim) hHeld (Or.inr ⟨by rfl, by rfl⟩) ?_
        simp only [Act.put, jA, jB, jC, jD, jE, jF]
        refine tkH 12 (undef) rfl (by kernel_rfl) (fun _ _ _ => False.elim) hHeld (Or.inr ⟨by rfl, by rfl⟩) ?_
        simp only [Act.put, jA, jB, jC, jD, jE, jF]
        refine tkH 13 (undef) rfl (by kernel_rfl) (fun _ _ _ => False.elim) hHeld (Or.inr ⟨by rfl, by rfl⟩) ?_
        simp only [Act.put, jA, jB, jC, jD, jE, jF]
        refine tkH 14 (undef) rfl (by kernel_rfl) (fun _ _ _ => False.elim) hHeld (Or.inr ⟨by rfl, by rfl⟩) ?_
        simp only [Act.put, jA, jB, jC, jD, jE, jF]
        refine tkH 15 (undef) rfl (by kernel_rfl) (fun _ _ _ => False.elim) hHeld (Or.inr ⟨by rfl, by rfl⟩) ?_
        simp only [Act.put, jA, jB, jC, jD, jE, jF]
        refine tkH 16 (.bool (false && (z == 6))) rfl (by kernel_rfl) (fun _ _ _ => False.elim) hHeld (Or.inl ⟨by rfl, fun W9 hW => by clear hHeld hW; simp only [jA, jB, jC]; go_simp⟩) ?_
        simp only [Act.put, jA, jB, jC, jD, jE, jF]
        refine wpAnyH_ready (rs := [17, 21]) (by kernel_rfl) (by simp) (AllReadyH.cons rfl ?_ (AllReadyH.cons rfl ?_ AllReadyH.nil))
        · intro K hK
          go_simp
          go_wp2_with (first | (go_at_call 25; refine (CS.out Wd hHeld.out).mono ?_; rintro en wE ⟨da, dc, db, dd, rfl, hbE, hcE, hoE⟩; have HBE := hid (below_step hHeld.out hbE); have HBX := hid hbE; have HSE := hid hHeld.out.size; have HCE := hid hcE; have HOE := hid hoE; clear hbE hcE hoE))
          clear hHeld
          refine hK.out _ _ HBE (fun hHeld => ?_)
          clear hK K
          try simp only [Act.put, jA, jB, jC, jD, jE, jF]
          refine tkH 18 (.tuple #[.agg #[.int .i64 (C.ver + (1 + (i : Int) + 1)), .int .i64 (C.nxt + 1), .slice da C.tabs.length dc, .slice db (lifD C tid x z (false && decide (2 ≤ i)) (1 + (i : Int) + 1)).idxs.length dd], .int .i64 0]) rfl (by kernel_rfl) (fun _ _ _ => False.elim) hHeld (Or.inl ⟨by rfl, fun W9 hW => by clear hHeld hW; simp only [jA, jB, jC]; go_simp⟩) ?_
          simp only [Act.put, jA, jB, jC, jD, jE, jF]
          refine tkH 19 (.agg #[.int .i64 (C.ver + (1 + (i : Int) + 1)), .int .i64 (C.nxt + 1), .slice da C.tabs.length dc, .slice db (lifD C tid x z (false && decide (2 ≤ i)) (1 + (i : Int) + 1)).idxs.length dd]) rfl (by kernel_rfl) (fun _ _ _ => False.elim) hHeld (Or.inl ⟨by rfl, fun W9 hW => by clear hHeld hW; simp only [jA, jB, jC]; go_simp⟩) ?_
          simp only [Act.put, jA, jB, jC, jD, jE, jF]
          refine tkH 20 (.int .i64 0) rfl (by kernel_rfl) (fun _ _ _ => False.elim) hHeld (Or.inl ⟨by rfl, fun W9 hW => by clear hHeld hW; simp only [jA, jB, jC]; go_simp⟩) ?_
          simp only [Act.put, jA, jB, jC, jD, jE, jF]
          refine rdH 21 (by kernel_rfl) rfl fun K hK => ?_
          go_simp
          have hza := heap_alloc_new wE (.cells #[.int .i64 0, .int .i64 0, .slice none 0 0, .slice none 0 0] 25)
          have hsa : (wE.alloc (.cells #[.int .i64 0, .int .i64 0, .slice none 0 0, .slice none 0 0] 25)).heap.size = wE.heap.size + 1 := by simp
          refine hK.out _ _ (hid (hHeld.out.alloc hHeld.out.size (.cells #[.int .i64 0, .int .i64 0, .slice none 0 0, .slice none 0 0] 25))) (fun hHeld2 => ?_)
          clear hK K
          try simp only [Act.put, jA, jB, jC, jD, jE, jF]
          have HCE2 := hid (HCE.out.old ((Below.refl wE.heap.size wE).alloc (Nat.le_refl _) (.cells #[.int .i64 0, .int .i64 0, .slice none 0 0, .slice none 0 0] 25)))
          have hE0 := hHeld.out.size
          generalize wE.alloc (.cells #[.int .i64 0, .int .i64 0, .slice none 0 0, .slice none 0 0] 25) = Wa at *
          clear hHeld HCE
          have hHeld := hHeld2
          have HCE := HCE2
          have HZA := hid hza
          have HSB := hid (show wr.heap.size ≤ wE.heap.size ∧ Wa.heap.size = wE.heap.size + 1 ∧ wr.heap.size ≤ Wd.heap.size ∧ Wd.heap.size ≤ wE.heap.size from ⟨hE0, hsa, HSE.out, HBX.out.size⟩)
          clear hHeld2 HCE2 hza hsa hE0
          refine rdH 22 (by kernel_rfl) rfl fun K hK => ?_
          rw [if_pos (by rfl)]
          refine Go.wp_store_row _ _ _ rfl wE.heap.size #[.int .i64 (C.ver + (1 + (i : Int) + 1)), .int .i64 (C.nxt + 1), .slice da C.tabs.length dc, .slice db (lifD C tid x z (false && decide (2 ≤ i)) (1 + (i : Int) + 1)).idxs.length dd] rfl rfl _ _ HZA.out (by kernel_rfl) rfl (by simp [Value.oneCell']) ?_
          have p1 := setRow_heap Wa wE.heap.size _ #[.int .i64 (C.ver + (1 + (i : Int) + 1)), .int .i64 (C.nxt + 1), .slice da C.tabs.length dc, .slice db (lifD C tid x z (false && decide (2 ≤ i)) (1 + (i : Int) + 1)).idxs.length dd] _ _ HZA.out
          have p2 := life_setRow Wa wE.heap.size #[.int .i64 (C.ver + (1 + (i : Int) + 1)), .int .i64 (C.nxt + 1), .slice da C.tabs.length dc, .slice db (lifD C tid x z (false && decide (2 ≤ i)) (1 + (i : Int) + 1)).idxs.length dd]
          generalize Wa.setRow wE.heap.size #[.int .i64 (C.ver + (1 + (i : Int) + 1)), .int .i64 (C.nxt + 1), .slice da C.tabs.length dc, .slice db (lifD C tid x z (false && decide (2 ≤ i)) (1 + (i : Int) + 1)).idxs.length dd] = Wb at *
          have HBW : Hid (Below wr.heap.size wr Wb) := hid (hHeld.out.trans (p2.below hHeld.out.size (fun k e => by have e9 : k = wE.heap.size := e; have := HSB.out; omega)))
          have HN1 := hid p1
          have HK1 := hid p2
          clear p1 p2 hHeld
          refine hK.out _ _ HBW (fun hHeld => ?_)
          clear hK K
          try simp only [Act.put, jA, jB, jC, jD, jE, jF]
          refine tkH 23 (.int .i64 0) rfl (by kernel_rfl) (fun _ _ _ => False.elim) hHeld (Or.inl ⟨by rfl, fun W9 hW => by clear hHeld hW; simp only [jA, jB, jC]; go_simp⟩) ?_
          simp only [Act.put, jA, jB, jC, jD, jE, jF]
          refine wpAnyH_done (by kernel_rfl) (NoPanic.normal ?_) _
          clear hHeld
          go_wp2_with fail
          go_meet
          exact ⟨wE.heap.size, da, dc, db, dd, rfl, rfl, by have := HSB.out; omega, by have h1 := HSB.out; have h2 := HK1.out.size; omega, HN1, HBW, hid ((HCE.out.keep HK1.out (fun k e e9 => by have e8 : k = wE.heap.size := e9; have h1 := HSB.out; have h2 := e.1; have h3 := e.2; omega)).mono (fun k e => ⟨by have h1 := HSB.out; have h2 := e.1; omega, by have h1 := HSB.out; have h2 := e.1; have h3 := e.2; omega⟩)), HOE⟩
        · intro K hK
          go_simp
          have hza := heap_alloc_new Wd (.cells #[.int .i64 0, .int .i64 0, .slice none 0 0, .slice none 0 0] 25)
          have hsa : (Wd.alloc (.cells #[.int .i64 0, .int .i64 0, .slice none 0 0, .slice none 0 0] 25)).heap.size = Wd.heap.size + 1 := by simp
          refine hK.out _ _ (hid (hHeld.out.alloc hHeld.out.size (.cells #[.int .i64 0, .int .i64 0, .slice none 0 0, .slice none 0 0] 25))) (fun hHeld2 => ?_)
          clear hK K
          try simp only [Act.put, jA, jB, jC, jD, jE, jF]
          have hE0 := hHeld.out.size
          generalize Wd.alloc (.cells #[.int .i64 0, .int .i64 0, .slice none 0 0, .slice none 0 0] 25) = Wa at *
          clear hHeld
          have hHeld := hHeld2
          have HZA := hid hza
          have HS0 := hid (show wr.heap.size ≤ Wd.heap.size ∧ Wa.heap.size = Wd.heap.size + 1 from ⟨hE0, hsa⟩)
          clear hHeld2 hza hsa hE0
          refine rdH 17 (by kernel_rfl) rfl fun K hK => ?_
          go_simp
          go_wp2_with (first | (go_at_call 25; refine (CS.out Wa hHeld.out).mono ?_; rintro en wE ⟨da, dc, db, dd, rfl, hbE, hcE, hoE⟩; have HBE := hid (below_step hHeld.out hbE); have HBX := hid hbE; have HSE := hid hHeld.out.size; have HCE := hid hcE; have HOE := hid hoE; clear hbE hcE hoE))
          clear hHeld
          refine hK.out _ _ HBE (fun hHeld => ?_)
          clear hK K
          try simp only [Act.put, jA, jB, jC, jD, jE, jF]
          have HZE := hid ((HBX.out.block _ (lt_of_block HZA.out)).trans HZA.out)
          have HSB := hid (show wr.heap.size ≤ Wd.heap.size ∧ Wa.heap.size = Wd.heap.size + 1 ∧ Wa.heap.size ≤ wE.heap.size from ⟨HS0.out.1, HS0.out.2, HBX.out.size⟩)
          refine tkH 18 (.tuple #[.agg #[.int .i64 (C.ver + (1 + (i : Int) + 1)), .int .i64 (C.nxt + 1), .slice da C.tabs.length dc, .slice db (lifD C tid x z (false && decide (2 ≤ i)) (1 + (i : Int) + 1)).idxs.length dd], .int .i64 0]) rfl (by kernel_rfl) (fun _ _ _ => False.elim) hHeld (Or.inl ⟨by rfl, fun W9 hW => by clear hHeld hW; simp only [jA, jB, jC]; go_simp⟩) ?_
          simp only [Act.put, jA, jB, jC, jD, jE, jF]
          refine tkH 19 (.agg #[.int .i64 (C.ver + (1 + (i : Int) + 1)), .int .i64 (C.nxt + 1), .slice da C.tabs.length dc, .slice db (lifD C tid x z (false && decide (2 ≤ i)) (1 + (i : Int) + 1)).idxs.length dd]) rfl (by kernel_rfl) (fun _ _ _ => False.elim) hHeld (Or.inl ⟨by rfl, fun W9 hW => by clear hHeld hW; simp only [jA, jB, jC]; go_simp⟩) ?_
          simp only [Act.put, jA, jB, jC, jD, jE, jF]
          refine tkH 20 (.int .i64 0) rfl (by kernel_rfl) (fun _ _ _ => False.elim) hHeld (Or.inl ⟨by rfl, fun W9 hW => by clear hHeld hW; simp only [jA, jB, jC]; go_simp⟩) ?_
          simp only [Act.put, jA, jB, jC, jD, jE, jF]
          refine rdH 22 (by kernel_rfl) rfl fun K hK => ?_
          rw [if_pos (by rfl)]
          refine Go.wp_store_row _ _ _ rfl Wd.heap.size #[.int .i64 (C.ver + (1 + (i : Int) + 1)), .int .i64 (C.nxt + 1), .slice da C.tabs.length dc, .slice db (lifD C tid x z (false && decide (2 ≤ i)) (1 + (i : Int) + 1)).idxs.length dd] rfl rfl _ _ HZE.out (by kernel_rfl) rfl (by simp [Value.oneCell']) ?_
          have p1 := setRow_heap wE Wd.heap.size _ #[.int .i64 (C.ver + (1 + (i : Int) + 1)), .int .i64 (C.nxt + 1), .slice da C.tabs.length dc, .slice db (lifD C tid x z (false && decide (2 ≤ i)) (1 + (i : Int) + 1)).idxs.length dd] _ _ HZE.out
          have p2 := life_setRow wE Wd.heap.size #[.int .i64 (C.ver + (1 + (i : Int) + 1)), .int .i64 (C.nxt + 1), .slice da C.tabs.length dc, .slice db (lifD C tid x z (false && decide (2 ≤ i)) (1 + (i : Int) + 1)).idxs.length dd]
          generalize wE.setRow Wd.heap.size #[.int .i64 (C.ver + (1 + (i : Int) + 1)), .int .i64 (C.nxt + 1), .slice da C.tabs.length dc, .slice db (lifD C tid x z (false && decide (2 ≤ i)) (1 + (i : Int) + 1)).idxs.length dd] = Wb at *
          have HBW : Hid (Below wr.heap.size wr Wb) := hid (hHeld.out.trans (p2.below hHeld.out.size (fun k e => by have e9 : k = Wd.heap.size := e; have := HSB.out; omega)))
          have HN1 := hid p1
          have HK1 := hid p2
          clear p1 p2 hHeld
          refine hK.out _ _ HBW (fun hHeld => ?_)
          clear hK K
          try simp only [Act.put, jA, jB, jC, jD, jE, jF]
          refine tkH 23 (.int .i64 0) rfl (by kernel_rfl) (fun _ _ _ => False.elim) hHeld (Or.inl ⟨by rfl, fun W9 hW => by clear hHeld hW; simp only [jA, jB, jC]; go_simp⟩) ?_
          simp only [Act.put, jA, jB, jC, jD, jE, jF]
          refine wpAnyH_done (by kernel_rfl) (NoPanic.normal ?_) _
          clear hHeld
          go_wp2_with fail
          go_meet
          exact ⟨Wd.heap.size, da, dc, db, dd, rfl, rfl, by have := HSB.out; omega, by have h1 := HSB.out; have h2 := HK1.out.size; omega, HN1, HBW, hid ((HCE.out.keep HK1.out (fun k e e9 => by have e8 : k = Wd.heap.size := e9; have h1 := HSB.out; have h2 := e.1; have h3 := e.2; omega)).mono (fun k e => ⟨by have h1 := HSB.out; have h2 := e.1; omega, by have h1 := HSB.out; have h2 := e.1; have h3 := e.2; omega⟩)), HOE⟩
  case rest =>
  obtain ⟨bm, a4, c4, a5, c5, rfl, rfl, hm1, hm2, HM11, HX11, HD11, HOD⟩ := hcut
  generalize wc = w11 at *
  have HLM := hid (show wr.heap.size ≤ bm ∧ bm < w11.heap.size from ⟨hm1, hm2⟩)
  clear hm1 hm2
  have HB11 := hid (below_step HBr.out HX11.out)
  have HSS11 := hid HX11.out.size
  have HN11 := hid ((HX11.out.block _ (lt_of_block HNr.out)).trans HNr.out)
  have HY11 := hid ((HX11.out.block _ (lt_of_block HYr.out)).trans HYr.out)
  have HZ11 := hid ((HX11.out.block _ (lt_of_block HZr.out)).trans HZr.out)
  have HP11 := hid ((HX11.out.block _ (lt_of_block HPr.out)).trans HPr.out)
  have HC11 := hid ((HX11.out.cell (block_cell HCL.out)).trans HCL.out)
  have hvw : IntKind.i64.wrap (C.ver + (1 + (i : Int)) + 1) = C.ver + (1 + (i : Int) + 1) := by rw [IntKind.wrap_i64]; have h1 := HV0.out; have h2 := HVL.out; omega
  have n0 := cell_in HN11.out 0 _ rfl
  have n0f := free_in HN11.out 0
  have n1 := cell_in HN11.out 1 _ rfl
  have n1f := free_in HN11.out 1
  have n2 := cell_in HN11.out 2 _ rfl
  have n2f := free_in HN11.out 2
  have n3 := cell_in HN11.out 3 _ rfl
  have n3f := free_in HN11.out 3
  have m0 := cell_in HM11.out 0 _ rfl
  have m1 := cell_in HM11.out 1 _ rfl
  have m2 := cell_in HM11.out 2 _ rfl
  have m3 := cell_in HM11.out 3 _ rfl
  go_upto_region 19 with fail
  obtain ⟨p1, p2⟩ := put4 HN11.out (.int .i64 (C.ver + (1 + (i : Int) + 1))) (.int .i64 (C.nxt + 1)) (.slice a4 C.tabs.length c4) (.slice a5 (lifD C tid x z (bad && decide (2 ≤ i)) (1 + (i : Int) + 1)).idxs.length c5)
  generalize (((w11.setCell ⟨w5.heap.size, 0, none⟩ (.int .i64 (C.ver + (1 + (i : Int) + 1)))).setCell ⟨w5.heap.size, 1, none⟩ (.int .i64 (C.nxt + 1))).setCell ⟨w5.heap.size, 2, none⟩ (.slice a4 C.tabs.length c4)).setCell ⟨w5.heap.size, 3, none⟩ (.slice a5 (lifD C tid x z (bad && decide (2 ≤ i)) (1 + (i : Int) + 1)).idxs.length c5) = w12 at *
  have HN12 := hid p1
  have HK12 := hid p2
  clear p1 p2 m0 m1 m2 m3 hvw
  clear n0 n0f n1 n1f n2 n2f n3 n3f
  have HB12 : Hid (Below W.heap.size W w12) := hid (HB11.out.trans (HK12.out.below HB11.out.size (fun k e => by have e9 : k = w5.heap.size := e; have := HLT.out; omega)))
  have HZ12 := hid ((HK12.out.block _ (lt_of_block HZ11.out) (fun e => by have e9 : W.heap.size = w5.heap.size := e; have := HLT.out; omega)).trans HZ11.out)
  have HP12 := hid ((HK12.out.block _ (lt_of_block HP11.out) (fun e => by have e9 : W.heap.size + 1 = w5.heap.size := e; have := HLT.out; omega)).trans HP11.out)
  have HY12 := hid ((HK12.out.block _ (lt_of_block HY11.out) (fun e => by have e9 : w7.heap.size = w5.heap.size := e; have := HLT.out; omega)).trans HY11.out)
  have HC12 := hid (HK12.out.cell' (fun e => by have e9 : bs = w5.heap.size := e; have := HLT.out; omega) HC11.out)
  have HD12 := hid (HD11.out.keep HK12.out (fun k e e9 => by have e8 : k = w5.heap.size := e9; have h1 := e.1; have h2 := HLT.out; have h3 := HSr.out; omega))
  have hnw : IntKind.i64.wrap (C.nxt + 1) = C.nxt + 1 := by rw [IntKind.wrap_i64]; have h1 := HNX.out; omega
  by_cases hz0 : z = 0
  case pos  =>
    have eD : lifD C tid x z (bad && decide (2 ≤ i)) (1 + (i : Int) + 1) = goneC C (1 + (i : Int) + 1) := if_pos hz0
    have HZB := hid hz0
    clear hz0
    have el2 : (goneC C (1 + (i : Int) + 1)).idxs.length = C.idxs.length := rfl
    have HDg : Hid (CatN (fun k => wr.heap.size ≤ k ∧ k ≠ bm) w12 [.int .i64 (C.ver + (1 + (i : Int) + 1)), .int .i64 (C.nxt + 1), .slice a4 C.tabs.length c4, .slice a5 C.idxs.length c5] (goneC C (1 + (i : Int) + 1))) := hid (by have h := HD12.out; rw [eD, el2] at h; exact h)
    have HNe : Hid (w12.heap[w5.heap.size]? = some (.cells #[.int .i64 (C.ver + (1 + (i : Int) + 1)), .int .i64 (C.nxt + 1), .slice a4 C.tabs.length c4, .slice a5 C.idxs.length c5] 25 (0, 0))) := hid (by have h := HN12.out; rw [eD, el2] at h; exact h)
    have CG : Hid (Calls Try.prog 15 #[.agg #[.int .i64 (C.ver + (1 + (i : Int) + 1)), .int .i64 (C.nxt + 1), .slice a4 C.tabs.length c4, .slice a5 C.idxs.length c5], .string ⟨x.name.toArray⟩] w12 (fun e w' => ∃ (i0 i1 i5 : Int) (s2 : ByteArray) (b4 b6 : Bool) (ya : Option Addr) (yn yc : Nat), e = .returned (.tuple #[.agg #[.int .i64 i0, .int .i64 i1, .string s2, .slice ya yn yc, .bool b4, .int .i64 i5, .bool b6], .bool false]) ∧ Below w12.heap.size w12 w')) := hid ((index_gone HL.out HDg.out).mono (fun e w' h => by obtain ⟨q1, q2, h1, h2⟩ := h; exact ⟨0, 0, 0, _, false, false, q1, 0, q2, h1, h2⟩))
    clear eD el2 HDg HD12 HN12 HD11 HM11 HOD
    have n0 := cell_in HNe.out 0 _ rfl
    have n1 := cell_in HNe.out 1 _ rfl
    have n2 := cell_in HNe.out 2 _ rfl
    have n3 := cell_in HNe.out 3 _ rfl
    have p2 := cell_in HP12.out 2 _ rfl
    go_upto_region 20 with (first | (go_at_call 15; refine CG.out.mono ?_; rintro en w13 ⟨i0, i1, i5, s2, b4, b6, yb, yn, yd, rfl, hb13⟩; have HB13 := hid (below_step HB12.out hb13); have HX13 := hid hb13; have HY13 := hid ((hb13.block _ (lt_of_block HY12.out)).trans HY12.out); clear n0 n1 n2 n3 p2 hb13; have y0 := cell_in HY13.out 0 _ rfl; have y0f := free_in HY13.out 0; have y1 := cell_in HY13.out 1 _ rfl; have y1f := free_in HY13.out 1; have y2 := cell_in HY13.out 2 _ rfl; have y2f := free_in HY13.out 2; have y3 := cell_in HY13.out 3 _ rfl; have y3f := free_in HY13.out 3; have y4 := cell_in HY13.out 4 _ rfl; have y4f := free_in HY13.out 4; have y5 := cell_in HY13.out 5 _ rfl; have y5f := free_in HY13.out 5; have y6 := cell_in HY13.out 6 _ rfl; have y6f := free_in HY13.out 6))
    obtain ⟨q1, q2⟩ := put7 HY13.out (.int .i64 i0) (.int .i64 i1) (.string s2) (.slice yb yn yd) (.bool b4) (.int .i64 i5) (.bool b6)
    generalize ((((((w13.setCell ⟨w7.heap.size, 0, none⟩ (.int .i64 i0)).setCell ⟨w7.heap.size, 1, none⟩ (.int .i64 i1)).setCell ⟨w7.heap.size, 2, none⟩ (.string s2)).setCell ⟨w7.heap.size, 3, none⟩ (.slice yb yn yd)).setCell ⟨w7.heap.size, 4, none⟩ (.bool b4)).setCell ⟨w7.heap.size, 5, none⟩ (.int .i64 i5)).setCell ⟨w7.heap.size, 6, none⟩ (.bool b6) = w14 at *
    clear q1 y0 y1 y2 y3 y4 y5 y6 y0f y1f y2f y3f y4f y5f y6f
    have HB14 : Hid (Below W.heap.size W w14) := hid (HB13.out.trans (q2.below HB13.out.size (fun k e => by have e9 : k = w7.heap.size := e; have := HLT.out; omega)))
    have hn14 := (q2.block _ (lt_of_block ((HX13.out.block _ (lt_of_block HNe.out)).trans HNe.out)) (fun e => by have e9 : w5.heap.size = w7.heap.size := e; have := HSy.out; omega)).trans ((HX13.out.block _ (lt_of_block HNe.out)).trans HNe.out)
    have n1 : w14.cell? ⟨w5.heap.size, 1, none⟩ = some (.int .i64 (C.nxt + 1)) := cell_in hn14 1 _ rfl
    have n3 : w14.cell? ⟨w5.heap.size, 3, none⟩ = some (.slice a5 C.idxs.length c5) := cell_in hn14 3 _ rfl
    have hz14 := (q2.block _ (lt_of_block ((HX13.out.block _ (lt_of_block HZ12.out)).trans HZ12.out)) (fun e => by have e9 : W.heap.size = w7.heap.size := e; have := HSy.out; omega)).trans ((HX13.out.block _ (lt_of_block HZ12.out)).trans HZ12.out)
    have z1 : w14.cell? ⟨W.heap.size, 1, none⟩ = some (.int .i64 C.nxt) := cell_in hz14 1 _ rfl
    have z3 : w14.cell? ⟨W.heap.size, 3, none⟩ = some (.slice a' C.idxs.length c') := cell_in hz14 3 _ rfl
    have c0 : w14.cell? ⟨bs, i, none⟩ = some (.int .i64 z) := q2.cell' (fun e => by have e9 : bs = w7.heap.size := e; have := HLT.out; omega) ((HX13.out.cell (block_cell HC12.out)).trans HC12.out)
    clear q2 hn14 hz14
    have hzb : (z == 0) = true := by simpa using HZB.out
    go_wp2_with fail
    go_ret
    exact ⟨rfl, HB14.out⟩
  have eD : lifD C tid x z (bad && decide (2 ≤ i)) (1 + (i : Int) + 1) = lifeC C (lifX C tid x z (bad && decide (2 ≤ i))) (1 + (i : Int) + 1) := if_neg hz0
  have el2 : (lifeC C (lifX C tid x z (bad && decide (2 ≤ i))) (1 + (i : Int) + 1)).idxs.length = C.idxs.length + 1 := by show (C.idxs ++ [_]).length = _; rw [List.length_append]; rfl
  have HOl : Hid (CatOk (lifeC C (lifX C tid x z (bad && decide (2 ≤ i))) (1 + (i : Int) + 1))) := hid (by have h := HOD.out; rw [eD] at h; exact h)
  have HDl : Hid (CatN (fun k => wr.heap.size ≤ k ∧ k ≠ bm) w12 [.int .i64 (C.ver + (1 + (i : Int) + 1)), .int .i64 (C.nxt + 1), .slice a4 C.tabs.length c4, .slice a5 (C.idxs.length + 1) c5] (lifeC C (lifX C tid x z (bad && decide (2 ≤ i))) (1 + (i : Int) + 1))) := hid (by have h := HD12.out; rw [eD, el2] at h; exact h)
  have CL : Hid (Calls Try.prog 15 #[.agg #[.int .i64 (C.ver + (1 + (i : Int) + 1)), .int .i64 (C.nxt + 1), .slice a4 C.tabs.length c4, .slice a5 (C.idxs.length + 1) c5], .string ⟨x.name.toArray⟩] w12 (fun e w' => ∃ ya yc, e = .returned (.tuple #[.agg #[.int .i64 C.nxt, .int .i64 tid, .string ⟨x.name.toArray⟩, .slice ya x.cols.length yc, .bool x.uniq, .int .i64 z, .bool (bad && decide (2 ≤ i))], .bool true]) ∧ Below w12.heap.size w12 w')) := hid (index_life HL.out HDl.out HOl.out)
  have HNl : Hid (w12.heap[w5.heap.size]? = some (.cells #[.int .i64 (C.ver + (1 + (i : Int) + 1)), .int .i64 (C.nxt + 1), .slice a4 C.tabs.length c4, .slice a5 (C.idxs.length + 1) c5] 25 (0, 0))) := hid (by have h := HN12.out; rw [eD, el2] at h; exact h)
  have n0 := cell_in HNl.out 0 _ rfl
  have n1 := cell_in HNl.out 1 _ rfl
  have n2 := cell_in HNl.out 2 _ rfl
  have n3 := cell_in HNl.out 3 _ rfl
  have p2 := cell_in HP12.out 2 _ rfl
  clear HM11 el2
  go_upto_region 20 with (first | (go_at_call 15; refine CL.out.mono ?_; rintro en w13 ⟨yb, yd, rfl, hb13⟩; have HB13 := hid (below_step HB12.out hb13); have HX13 := hid hb13; have HY13 := hid ((hb13.block _ (lt_of_block HY12.out)).trans HY12.out); clear n0 n1 n2 n3 p2 hb13; have y0 := cell_in HY13.out 0 _ rfl; have y0f := free_in HY13.out 0; have y1 := cell_in HY13.out 1 _ rfl; have y1f := free_in HY13.out 1; have y2 := cell_in HY13.out 2 _ rfl; have y2f := free_in HY13.out 2; have y3 := cell_in HY13.out 3 _ rfl; have y3f := free_in HY13.out 3; have y4 := cell_in HY13.out 4 _ rfl; have y4f := free_in HY13.out 4; have y5 := cell_in HY13.out 5 _ rfl; have y5f := free_in HY13.out 5; have y6 := cell_in HY13.out 6 _ rfl; have y6f := free_in HY13.out 6))
  obtain ⟨q1, q2⟩ := put7 HY13.out (.int .i64 C.nxt) (.int .i64 tid) (.string ⟨x.name.toArray⟩) (.slice yb x.cols.length yd) (.bool x.uniq) (.int .i64 z) (.bool (bad && decide (2 ≤ i)))
  generalize ((((((w13.setCell ⟨w7.heap.size, 0, none⟩ (.int .i64 C.nxt)).setCell ⟨w7.heap.size, 1, none⟩ (.int .i64 tid)).setCell ⟨w7.heap.size, 2, none⟩ (.string ⟨x.name.toArray⟩)).setCell ⟨w7.heap.size, 3, none⟩ (.slice yb x.cols.length yd)).setCell ⟨w7.heap.size, 4, none⟩ (.bool x.uniq)).setCell ⟨w7.heap.size, 5, none⟩ (.int .i64 z)).setCell ⟨w7.heap.size, 6, none⟩ (.bool (bad && decide (2 ≤ i))) = w14 at *
  have HY14 := hid q1
  have HK14 := hid q2
  have HC14 := hid (q2.cell' (fun e => by have e9 : bs = w7.heap.size := e; have := HLT.out; omega) ((HX13.out.cell (block_cell HC12.out)).trans HC12.out))
  clear q1 q2 y0 y1 y2 y3 y4 y5 y6 y0f y1f y2f y3f y4f y5f y6f
  have HB14 : Hid (Below W.heap.size W w14) := hid (HB13.out.trans (HK14.out.below HB13.out.size (fun k e => by have e9 : k = w7.heap.size := e; have := HLT.out; omega)))
  have HK9 : Hid (Keep (fun k => k = w5.heap.size ∨ k = w7.heap.size) w10 w14) := hid ((((HKr.out.trans (Keep.of_below HX11.out)).trans (HK12.out.mono (fun k _ e => Or.inl e))).trans (Keep.of_below HX13.out)).trans (HK14.out.mono (fun k _ e => Or.inr e)))
  have HN14 := hid ((HK14.out.block _ (lt_of_block ((HX13.out.block _ (lt_of_block HNl.out)).trans HNl.out)) (fun e => by have e9 : w5.heap.size = w7.heap.size := e; have := HSy.out; omega)).trans ((HX13.out.block _ (lt_of_block HNl.out)).trans HNl.out))
  have HD14 := hid ((HDl.out.old HX13.out).keep HK14.out (fun k e e9 => by have e8 : k = w7.heap.size := e9; have h1 := e.1; have h2 := HLT.out; have h3 := HSr.out; omega))
  have y5 : w14.cell? ⟨w7.heap.size, 5, none⟩ = some (.int .i64 z) := cell_in HY14.out 5 _ rfl
  have c0 : w14.cell? ⟨bs, i, none⟩ = some (.int .i64 z) := HC14.out
  go_upto_region 22 with fail
  have e3 : (bad && decide (2 ≤ i)) = (bad && decide (3 ≤ i + 1)) := by congr 1; exact decide_eq_decide.2 (by omega)
  have e4 : (1 + (i : Int) + 1) = 1 + ((i + 1 : Nat) : Int) := by omega
  have HRN : Hid (w14.heap[w5.heap.size]? = some (.cells #[.int .i64 (C.ver + (1 + ((i + 1 : Nat) : Int))), .int .i64 (C.nxt + 1), .slice a4 C.tabs.length c4, .slice a5 (C.idxs.length + 1) c5] 25 (0, 0))) := hid (by rw [← e4]; exact HN14.out)
  have HRY : Hid (w14.heap[w7.heap.size]? = some (.cells #[.int .i64 C.nxt, .int .i64 tid, .string ⟨x.name.toArray⟩, .slice yb x.cols.length yd, .bool x.uniq, .int .i64 z, .bool (bad && decide (3 ≤ i + 1))] 37 (0, 0))) := hid (by rw [← e3]; exact HY14.out)
  have HRD9 : Hid (CatN (fun k => wr.heap.size ≤ k ∧ k ≠ bm) w14 [.int .i64 (C.ver + (1 + ((i + 1 : Nat) : Int))), .int .i64 (C.nxt + 1), .slice a4 C.tabs.length c4, .slice a5 (C.idxs.length + 1) c5] (lifeC C (lifX C tid x z (bad && decide (3 ≤ i + 1))) (1 + ((i + 1 : Nat) : Int)))) := hid (by rw [← e3, ← e4]; exact HD14.out)
  have HRO : Hid (CatOk (lifeC C (lifX C tid x z (bad && decide (3 ≤ i + 1))) (1 + ((i + 1 : Nat) : Int)))) := hid (by rw [← e3, ← e4]; exact HOl.out)
  have HRC : Hid (CatN (fun k => k ≠ w5.heap.size ∧ k ≠ w7.heap.size) w14 [.int .i64 (C.ver + (1 + ((i + 1 : Nat) : Int))), .int .i64 (C.nxt + 1), .slice a4 C.tabs.length c4, .slice a5 (C.idxs.length + 1) c5] (lifeC C (lifX C tid x z (bad && decide (3 ≤ i + 1))) (1 + ((i + 1 : Nat) : Int)))) := hid (HRD9.out.mono (fun k e => by have h1 := e.1; have h2 := HLT.out; have h3 := HSr.out; exact ⟨by omega, by omega⟩))
  have HI1 : Hid ((1 :: lifeL bad)[i + 1]? = some z) := hid (by rw [List.getElem?_cons_succ]; exact HZS.out)
  have HI4 : Hid (i + 1 ≤ 4) := hid (life_four HZS.out hlt hi4 hz0)
  clear e3 e4
  by_cases hi1 : (1 : Int) < (i : Int)
  case pos =>
    as_aux_lemma =>
      have y6 : w14.cell? ⟨w7.heap.size, 6, none⟩ = some (.bool bad) := by
        have h := cell_in HY14.out 6 _ rfl
        rw [h]; show some (Value.bool (bad && decide (2 ≤ i))) = _
        rw [decide_eq_true (by omega), Bool.and_true]
      go_quiet (fail)
      go_wp2_with fail
      go_roundw
      case rel => exact ⟨i + 1, z, _, a4, c4, a5, c5, yb, yd, by omega, HI4.out, HI1.out, rfl, by go_num, HRN, HRY, hid (by first | exact HK9.out | exact HK9.out.drew | exact ⟨HK9.out.os, HK9.out.tape, HK9.out.output, HK9.out.size, HK9.out.block⟩), HRC, HRO⟩
      case measure => simp [intOf]; omega
  have y6 : w14.cell? ⟨w7.heap.size, 6, none⟩ = some (.bool false) := by
    have h := cell_in HY14.out 6 _ rfl
    rw [h]; show some (Value.bool (bad && decide (2 ≤ i))) = _
    rw [decide_eq_false (by omega), Bool.and_false]
  go_quiet (fail)
  go_wp2_with fail
  go_roundw
  case rel => exact ⟨i + 1, z, _, a4, c4, a5, c5, yb, yd, by omega, HI4.out, HI1.out, rfl, by go_num, HRN, HRY, hid (by first | exact HK9.out | exact HK9.out.drew | exact ⟨HK9.out.os, HK9.out.tape, HK9.out.output, HK9.out.size, HK9.out.block⟩), HRC, HRO⟩
  case measure => simp [intOf]; omega
end Go.Proofs.Ytpdmocdfnakggaa.schemaLife
