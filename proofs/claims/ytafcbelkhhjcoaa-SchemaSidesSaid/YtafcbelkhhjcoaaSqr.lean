/-
  LAYER 12, THE CODE's: copied; counts.
-/
import Derived.Test.YtafcbelkhhjcoaaSqp
set_option linter.unusedVariables false
set_option linter.unusedSimpArgs false
set_option maxRecDepth 100000
namespace Go.Proofs.Ytafcbelkhhjcoaa
open Go.RowKit Go.Deep

set_option maxHeartbeats 8000000 in
theorem copied_any {N : Nat → Prop} {w : World} {cs : List Value} {C : Cat} (h : CatN N w cs C) (hS : C.S) :
    Calls Try.prog 106 #[.agg cs.toArray] w (fun e w' => ∃ vs : List Value, e = .returned (.agg vs.toArray) ∧ Below w.heap.size w w' ∧ CatO w.heap.size w' vs C) := by
  obtain ⟨a, c, a', c', rfl, ht, hi, -, -⟩ := cat_open h
  obtain ⟨s1, s2, s3, s4⟩ := hS
  have HTT := hid ht
  have HII := hid hi
  have HS3 := hid s3
  have HS4 := hid s4
  clear h ht hi s3 s4
  go_enter Try.func106, Try.ntmps106
  go_upto_region 1 with fail
  have hb := (Below.refl w.heap.size w).alloc (Nat.le_refl _) (.cells #[.int .i64 C.ver, .int .i64 C.nxt, .slice a C.tabs.length c, .slice a' C.idxs.length c'] 25)
  have hz := heap_alloc_new w (.cells #[.int .i64 C.ver, .int .i64 C.nxt, .slice a C.tabs.length c, .slice a' C.idxs.length c'] 25)
  have hsz : (w.alloc (.cells #[.int .i64 C.ver, .int .i64 C.nxt, .slice a C.tabs.length c, .slice a' C.idxs.length c'] 25)).heap.size = w.heap.size + 1 := by simp
  generalize w.alloc (.cells #[.int .i64 C.ver, .int .i64 C.nxt, .slice a C.tabs.length c, .slice a' C.idxs.length c'] 25) = w1 at *
  have hz2 := heap_alloc_new w1 (.cells #[.int .i64 0, .int .i64 0, .slice none 0 0, .slice none 0 0] 25)
  have hb2 := hb.alloc hb.size (.cells #[.int .i64 0, .int .i64 0, .slice none 0 0, .slice none 0 0] 25)
  have hzk := (((Below.refl _ w1).alloc (Nat.le_refl _) (.cells #[.int .i64 0, .int .i64 0, .slice none 0 0, .slice none 0 0] 25)).block _ (lt_of_block hz)).trans hz
  have hsz2 : (w1.alloc (.cells #[.int .i64 0, .int .i64 0, .slice none 0 0, .slice none 0 0] 25)).heap.size = w.heap.size + 2 := by simp [hsz]
  rw [hsz] at hz2
  generalize w1.alloc (.cells #[.int .i64 0, .int .i64 0, .slice none 0 0, .slice none 0 0] 25) = w2 at *
  have HB := hid hb2
  have HZ := hid hzk
  have HZ2 := hid hz2
  have HSZ := hid hsz2
  clear hb hb2 hz hz2 hzk hsz hsz2
  have z2 := cell_in HZ.out 2 _ rfl
  have CT := hid (eachTab_any w2 (HTT.out.oldT HB.out) s1 HS3.out)
  go_upto_region 2 with (first | (go_at_call 188; refine CT.out.mono ?_; rintro en w3 ⟨v3, rfl, hb3, ho3⟩; obtain ⟨f1, q1, rfl⟩ := own_form ho3; have HB23 := hid hb3; have HB3 := hid (below_step HB.out hb3); have HO3 := hid ho3; have HZ3 := hid ((hb3.block _ (lt_of_block HZ.out)).trans HZ.out); have HZ23 := hid ((hb3.block _ (lt_of_block HZ2.out)).trans HZ2.out); clear hb3 ho3 z2; have z2 := cell_in HZ3.out 2 _ rfl; have z2f := free_in HZ3.out 2))
  have HZ4 := hid (put_in HZ3.out 2 (.slice f1 C.tabs.length q1))
  have HKe4 : Hid (Keep (fun k => k = w.heap.size) w3 (w3.setCell ⟨w.heap.size, 2, none⟩ (.slice f1 C.tabs.length q1))) := hid (Keep.set _ _ _ rfl)
  have HB4 : Hid (Below w.heap.size w (w3.setCell ⟨w.heap.size, 2, none⟩ (.slice f1 C.tabs.length q1))) := hid (HB3.out.setCell (Nat.le_refl _) _)
  generalize w3.setCell ⟨w.heap.size, 2, none⟩ (.slice f1 C.tabs.length q1) = w4 at *
  clear z2 z2f
  have z3 := cell_in HZ4.out 3 _ rfl
  have CI := hid (eachIdx_any w4 (HII.out.oldI HB4.out) s2 HS4.out)
  go_upto_region 3 with (first | (go_at_call 189; refine CI.out.mono ?_; rintro en w5 ⟨v5, rfl, hb5, ho5⟩; obtain ⟨f2, q2, rfl⟩ := own_form ho5; have HB45 := hid hb5; have HB5 := hid (below_step HB4.out hb5); have HO5 := hid ho5; have HZ5 := hid ((hb5.block _ (lt_of_block HZ4.out)).trans HZ4.out); clear hb5 ho5 z3; have z3 := cell_in HZ5.out 3 _ rfl; have z3f := free_in HZ5.out 3))
  have HZ6 := hid (put_in HZ5.out 3 (.slice f2 C.idxs.length q2))
  have HKe6 : Hid (Keep (fun k => k = w.heap.size) w5 (w5.setCell ⟨w.heap.size, 3, none⟩ (.slice f2 C.idxs.length q2))) := hid (Keep.set _ _ _ rfl)
  have HB6 : Hid (Below w.heap.size w (w5.setCell ⟨w.heap.size, 3, none⟩ (.slice f2 C.idxs.length q2))) := hid (HB5.out.setCell (Nat.le_refl _) _)
  generalize w5.setCell ⟨w.heap.size, 3, none⟩ (.slice f2 C.idxs.length q2) = w6 at *
  clear z3 z3f
  have HR6 := hid ((HKe6.out.block _ (by have := HB45.out.size; have := HKe4.out.size; have := HB23.out.size; have := HSZ.out; omega) (by omega)).trans ((HB45.out.block _ (by have := HKe4.out.size; have := HB23.out.size; have := HSZ.out; omega)).trans ((HKe4.out.block _ (by have := HB23.out.size; have := HSZ.out; omega) (by omega)).trans HZ23.out)))
  have z0 := cell_in HZ6.out 0 _ rfl
  have z1 := cell_in HZ6.out 1 _ rfl
  have z2 := cell_in HZ6.out 2 _ rfl
  have z3 := cell_in HZ6.out 3 _ rfl
  have r0 := cell_in HR6.out 0 _ rfl
  have r1 := cell_in HR6.out 1 _ rfl
  have r2 := cell_in HR6.out 2 _ rfl
  have r3 := cell_in HR6.out 3 _ rfl
  have r0f := free_in HR6.out 0
  have r1f := free_in HR6.out 1
  have r2f := free_in HR6.out 2
  have r3f := free_in HR6.out 3
  go_wp2_with fail
  obtain ⟨p1, p2⟩ := put4 HR6.out (.int .i64 C.ver) (.int .i64 C.nxt) (.slice f1 C.tabs.length q1) (.slice f2 C.idxs.length q2)
  generalize (((w6.setCell ⟨w.heap.size + 1, 0, none⟩ (.int .i64 C.ver)).setCell ⟨w.heap.size + 1, 1, none⟩ (.int .i64 C.nxt)).setCell ⟨w.heap.size + 1, 2, none⟩ (.slice f1 C.tabs.length q1)).setCell ⟨w.heap.size + 1, 3, none⟩ (.slice f2 C.idxs.length q2) = s4 at *
  refine bodyPost_ret (results_cell_row rfl _ _ (w.heap.size + 1) 25 _ (0, 0) _ rfl p1 Try.underlying25 rfl (by kernel_rfl)) rfl ?_
  have e1 := HSZ.out
  have e2 := HB23.out.size
  have e3 := HKe4.out.size
  have e4 := HB45.out.size
  have e5 := HKe6.out.size
  have e6 := p2.size
  have k34 : Keep (fun k => k = w.heap.size ∨ k = w.heap.size + 1) w3 s4 := (HKe4.out.mono (fun k _ e => Or.inl e)).trans ((Keep.of_below HB45.out).trans ((HKe6.out.mono (fun k _ e => Or.inl e)).trans (p2.mono (fun k _ e => Or.inr e))))
  have k54 : Keep (fun k => k = w.heap.size ∨ k = w.heap.size + 1) w5 s4 := (HKe6.out.mono (fun k _ e => Or.inl e)).trans (p2.mono (fun k _ e => Or.inr e))
  have hl1 := HO3.out.lt
  have hl2 := HO5.out.lt
  refine ⟨_, rfl, HB6.out.trans (p2.below (by omega) (fun k e => by omega)), _, _, rfl, ?_, ?_, ?_⟩
  · refine (HO3.out.mono (R' := TabN fun k => NewQ w.heap.size s4 (.slice f1 C.tabs.length q1) k ∧ (Value.slice f2 C.idxs.length q2).ownBlock ≠ some k) k34 (fun k e e9 => by have := (hl1 k e).1; omega) (fun r a h => (h.keep k34 (fun k e e9 => by have := e.1; omega)).mono (fun k e => ⟨⟨by have := e.1; omega, by have := e.2.1; omega, e.2.2⟩, fun e9 => by have := (hl2 k e9).1; have := e.2.1; omega⟩))).base (by omega)
  · refine (HO5.out.mono (R' := IdxN fun k => NewQ w.heap.size s4 (.slice f2 C.idxs.length q2) k ∧ (Value.slice f1 C.tabs.length q1).ownBlock ≠ some k) k54 (fun k e e9 => by have := (hl2 k e).1; omega) (fun r a h => (h.keep k54 (fun k e e9 => by have := e.1; omega)).mono (fun k e => ⟨⟨by have := e.1; omega, by have := e.2.1; omega, e.2.2⟩, fun e9 => by have := (hl1 k e9).2; have := e.1; omega⟩))).base (by omega)
  · intro k e9 e8
    have := (hl1 k e9).2
    have := (hl2 k e8).1
    omega

set_option maxHeartbeats 4000000 in
theorem counts_any {N : Nat → Prop} {w : World} {cs : List Value} {C : Cat} (h : CatN N w cs C) (hv : C.ver < 9223372036854775807) : Calls Try.prog 108 #[.agg cs.toArray] w (fun e w' => e = .returned (.bool (decide (C.nxt < 1073741824))) ∧ Below w.heap.size w w') := by
  obtain ⟨a, c, a', c', rfl, -, -, -, -⟩ := cat_open h
  clear h
  go_enter Try.func108, Try.ntmps108
  go_upto_region 1 with fail
  have hb := (Below.refl w.heap.size w).alloc (Nat.le_refl _) (.cells #[.int .i64 C.ver, .int .i64 C.nxt, .slice a C.tabs.length c, .slice a' C.idxs.length c'] 25)
  have hz := heap_alloc_new w (.cells #[.int .i64 C.ver, .int .i64 C.nxt, .slice a C.tabs.length c, .slice a' C.idxs.length c'] 25)
  generalize w.alloc (.cells #[.int .i64 C.ver, .int .i64 C.nxt, .slice a C.tabs.length c, .slice a' C.idxs.length c'] 25) = w1 at *
  have HB := hid hb
  have z0 := cell_in hz 0 _ rfl
  have z1 := cell_in hz 1 _ rfl
  clear hb hz
  by_cases h1 : C.nxt < 1073741824
  · go_wp2_with fail
    go_ret
    exact ⟨by rw [decide_eq_true h1]; rfl, HB.out⟩
  · go_wp2_with fail
    go_ret
    exact ⟨by rw [decide_eq_false (by omega : ¬ C.nxt < 1073741824)]; rfl, HB.out⟩
end Go.Proofs.Ytafcbelkhhjcoaa
