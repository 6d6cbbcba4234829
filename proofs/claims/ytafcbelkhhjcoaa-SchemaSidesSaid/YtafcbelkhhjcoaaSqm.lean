/-
  LAYER 12, THE CODE's: Right (made by src2/gen_sright3.py).
-/
import Derived.Test.YtafcbelkhhjcoaaSql
set_option linter.unusedVariables false
set_option linter.unusedSimpArgs false
set_option maxRecDepth 100000
namespace Go.Proofs.Ytafcbelkhhjcoaa
open Go.RowKit Go.Deep

theorem numsF_len {C : Cat} (h : numsF C = true) : C.tabs.length ≤ 100 ∧ C.idxs.length ≤ 100 := by
  unfold numsF at h
  simp only [Bool.and_eq_true, decide_eq_true_eq] at h
  omega

set_option maxHeartbeats 8000000 in
theorem right_any {N : Nat → Prop} {w : World} {cs : List Value} {C : Cat} (h : CatN N w cs C) (hw : C.W) : Calls Try.prog 16 #[.agg cs.toArray] w (fun e w' => e = .returned (.bool (catB C)) ∧ Below w.heap.size w w') := by
  have HH := hid h
  have HW := hid hw
  obtain ⟨a, c, a', c', rfl, -, -, -, -⟩ := cat_open h
  clear h hw
  go_enter Try.func16, Try.ntmps16
  go_upto_region 1 with fail
  have hb := (Below.refl w.heap.size w).alloc (Nat.le_refl _) (.cells #[.int .i64 C.ver, .int .i64 C.nxt, .slice a C.tabs.length c, .slice a' C.idxs.length c'] 25)
  have hz := heap_alloc_new w (.cells #[.int .i64 C.ver, .int .i64 C.nxt, .slice a C.tabs.length c, .slice a' C.idxs.length c'] 25)
  generalize w.alloc (.cells #[.int .i64 C.ver, .int .i64 C.nxt, .slice a C.tabs.length c, .slice a' C.idxs.length c'] 25) = w0 at *
  have HB0 := hid hb
  have HZ0 := hid hz
  clear hb hz
  have HE := hid (catF_eq C)
  have z0 := cell_in HZ0.out 0 _ rfl
  have z1 := cell_in HZ0.out 1 _ rfl
  have z2 := cell_in HZ0.out 2 _ rfl
  have z3 := cell_in HZ0.out 3 _ rfl
  have C0 := hid (rgtNum_any (HH.out.old HB0.out))
  cases hq0 : numsF C with
  | false =>
    have HR : Hid (catB C = false) := hid (by rw [← HE.out, hq0]; simp)
    rw [hq0] at C0
    go_wp2_with (first
      | (go_at_call 92; refine C0.out.mono ?_; rintro en w1 ⟨rfl, hb1⟩; have HB1 := hid (below_step HB0.out hb1); clear hb1))
    go_ret
    exact ⟨by rw [HR.out]; rfl, HB1.out⟩
  | true =>
    have HL := hid (numsF_len hq0)
    rw [hq0] at C0
    cases hq1 : idsF C with
    | false =>
      have HR : Hid (catB C = false) := hid (by rw [← HE.out, hq1]; simp)
      go_wp2_with (first
        | (go_at_call 92; refine C0.out.mono ?_; rintro en w1 ⟨rfl, hb1⟩; have HB1 := hid (below_step HB0.out hb1); have HZ1 := hid ((hb1.block _ (lt_of_block HZ0.out)).trans HZ0.out); clear z0 z1 z2 z3; have z0 := cell_in HZ1.out 0 _ rfl; have z1 := cell_in HZ1.out 1 _ rfl; have z2 := cell_in HZ1.out 2 _ rfl; have z3 := cell_in HZ1.out 3 _ rfl; have C1 := hid (rgtIds_any (HH.out.old HB1.out) HL.out.1 HL.out.2); rw [hq1] at C1; clear hb1)
        | (go_at_call 93; refine C1.out.mono ?_; rintro en w2 ⟨rfl, hb2⟩; have HB2 := hid (below_step HB1.out hb2); clear hb2))
      go_ret
      exact ⟨by rw [HR.out]; rfl, HB2.out⟩
    | true =>
      cases hq2 : namesF C with
      | false =>
        have HR : Hid (catB C = false) := hid (by rw [← HE.out, hq2]; simp)
        go_wp2_with (first
          | (go_at_call 92; refine C0.out.mono ?_; rintro en w1 ⟨rfl, hb1⟩; have HB1 := hid (below_step HB0.out hb1); have HZ1 := hid ((hb1.block _ (lt_of_block HZ0.out)).trans HZ0.out); clear z0 z1 z2 z3; have z0 := cell_in HZ1.out 0 _ rfl; have z1 := cell_in HZ1.out 1 _ rfl; have z2 := cell_in HZ1.out 2 _ rfl; have z3 := cell_in HZ1.out 3 _ rfl; have C1 := hid (rgtIds_any (HH.out.old HB1.out) HL.out.1 HL.out.2); rw [hq1] at C1; clear hb1)
          | (go_at_call 93; refine C1.out.mono ?_; rintro en w2 ⟨rfl, hb2⟩; have HB2 := hid (below_step HB1.out hb2); have HZ2 := hid ((hb2.block _ (lt_of_block HZ1.out)).trans HZ1.out); clear z0 z1 z2 z3; have z0 := cell_in HZ2.out 0 _ rfl; have z1 := cell_in HZ2.out 1 _ rfl; have z2 := cell_in HZ2.out 2 _ rfl; have z3 := cell_in HZ2.out 3 _ rfl; have C2 := hid (rgtNames_any (HH.out.old HB2.out) HL.out.1 HL.out.2); rw [hq2] at C2; clear hb2)
          | (go_at_call 94; refine C2.out.mono ?_; rintro en w3 ⟨rfl, hb3⟩; have HB3 := hid (below_step HB2.out hb3); clear hb3))
        go_ret
        exact ⟨by rw [HR.out]; rfl, HB3.out⟩
      | true =>
        cases hq3 : C.tabs.all tabB with
        | false =>
          have HR : Hid (catB C = false) := hid (by rw [← HE.out, hq3]; simp)
          go_wp2_with (first
            | (go_at_call 92; refine C0.out.mono ?_; rintro en w1 ⟨rfl, hb1⟩; have HB1 := hid (below_step HB0.out hb1); have HZ1 := hid ((hb1.block _ (lt_of_block HZ0.out)).trans HZ0.out); clear z0 z1 z2 z3; have z0 := cell_in HZ1.out 0 _ rfl; have z1 := cell_in HZ1.out 1 _ rfl; have z2 := cell_in HZ1.out 2 _ rfl; have z3 := cell_in HZ1.out 3 _ rfl; have C1 := hid (rgtIds_any (HH.out.old HB1.out) HL.out.1 HL.out.2); rw [hq1] at C1; clear hb1)
            | (go_at_call 93; refine C1.out.mono ?_; rintro en w2 ⟨rfl, hb2⟩; have HB2 := hid (below_step HB1.out hb2); have HZ2 := hid ((hb2.block _ (lt_of_block HZ1.out)).trans HZ1.out); clear z0 z1 z2 z3; have z0 := cell_in HZ2.out 0 _ rfl; have z1 := cell_in HZ2.out 1 _ rfl; have z2 := cell_in HZ2.out 2 _ rfl; have z3 := cell_in HZ2.out 3 _ rfl; have C2 := hid (rgtNames_any (HH.out.old HB2.out) HL.out.1 HL.out.2); rw [hq2] at C2; clear hb2)
            | (go_at_call 94; refine C2.out.mono ?_; rintro en w3 ⟨rfl, hb3⟩; have HB3 := hid (below_step HB2.out hb3); have HZ3 := hid ((hb3.block _ (lt_of_block HZ2.out)).trans HZ2.out); clear z0 z1 z2 z3; have z0 := cell_in HZ3.out 0 _ rfl; have z1 := cell_in HZ3.out 1 _ rfl; have z2 := cell_in HZ3.out 2 _ rfl; have z3 := cell_in HZ3.out 3 _ rfl; have C3 := hid (rgtTab_any (HH.out.old HB3.out) HW.out.2.2.1); rw [hq3] at C3; clear hb3)
            | (go_at_call 95; refine C3.out.mono ?_; rintro en w4 ⟨rfl, hb4⟩; have HB4 := hid (below_step HB3.out hb4); clear hb4))
          go_ret
          exact ⟨by rw [HR.out]; rfl, HB4.out⟩
        | true =>
          cases hq4 : C.idxs.all (idxF C) with
          | false =>
            have HR : Hid (catB C = false) := hid (by rw [← HE.out, hq4]; simp)
            go_wp2_with (first
              | (go_at_call 92; refine C0.out.mono ?_; rintro en w1 ⟨rfl, hb1⟩; have HB1 := hid (below_step HB0.out hb1); have HZ1 := hid ((hb1.block _ (lt_of_block HZ0.out)).trans HZ0.out); clear z0 z1 z2 z3; have z0 := cell_in HZ1.out 0 _ rfl; have z1 := cell_in HZ1.out 1 _ rfl; have z2 := cell_in HZ1.out 2 _ rfl; have z3 := cell_in HZ1.out 3 _ rfl; have C1 := hid (rgtIds_any (HH.out.old HB1.out) HL.out.1 HL.out.2); rw [hq1] at C1; clear hb1)
              | (go_at_call 93; refine C1.out.mono ?_; rintro en w2 ⟨rfl, hb2⟩; have HB2 := hid (below_step HB1.out hb2); have HZ2 := hid ((hb2.block _ (lt_of_block HZ1.out)).trans HZ1.out); clear z0 z1 z2 z3; have z0 := cell_in HZ2.out 0 _ rfl; have z1 := cell_in HZ2.out 1 _ rfl; have z2 := cell_in HZ2.out 2 _ rfl; have z3 := cell_in HZ2.out 3 _ rfl; have C2 := hid (rgtNames_any (HH.out.old HB2.out) HL.out.1 HL.out.2); rw [hq2] at C2; clear hb2)
              | (go_at_call 94; refine C2.out.mono ?_; rintro en w3 ⟨rfl, hb3⟩; have HB3 := hid (below_step HB2.out hb3); have HZ3 := hid ((hb3.block _ (lt_of_block HZ2.out)).trans HZ2.out); clear z0 z1 z2 z3; have z0 := cell_in HZ3.out 0 _ rfl; have z1 := cell_in HZ3.out 1 _ rfl; have z2 := cell_in HZ3.out 2 _ rfl; have z3 := cell_in HZ3.out 3 _ rfl; have C3 := hid (rgtTab_any (HH.out.old HB3.out) HW.out.2.2.1); rw [hq3] at C3; clear hb3)
              | (go_at_call 95; refine C3.out.mono ?_; rintro en w4 ⟨rfl, hb4⟩; have HB4 := hid (below_step HB3.out hb4); have HZ4 := hid ((hb4.block _ (lt_of_block HZ3.out)).trans HZ3.out); clear z0 z1 z2 z3; have z0 := cell_in HZ4.out 0 _ rfl; have z1 := cell_in HZ4.out 1 _ rfl; have z2 := cell_in HZ4.out 2 _ rfl; have z3 := cell_in HZ4.out 3 _ rfl; have C4 := hid (rgtIdx_any (HH.out.old HB4.out) HW.out.2.2.2.1); rw [hq4] at C4; clear hb4)
              | (go_at_call 96; refine C4.out.mono ?_; rintro en w5 ⟨rfl, hb5⟩; have HB5 := hid (below_step HB4.out hb5); clear hb5))
            go_ret
            exact ⟨by rw [HR.out]; rfl, HB5.out⟩
          | true =>
            have HR : Hid (catB C = true) := hid (by rw [← HE.out, hq0, hq1, hq2, hq3, hq4]; rfl)
            go_wp2_with (first
              | (go_at_call 92; refine C0.out.mono ?_; rintro en w1 ⟨rfl, hb1⟩; have HB1 := hid (below_step HB0.out hb1); have HZ1 := hid ((hb1.block _ (lt_of_block HZ0.out)).trans HZ0.out); clear z0 z1 z2 z3; have z0 := cell_in HZ1.out 0 _ rfl; have z1 := cell_in HZ1.out 1 _ rfl; have z2 := cell_in HZ1.out 2 _ rfl; have z3 := cell_in HZ1.out 3 _ rfl; have C1 := hid (rgtIds_any (HH.out.old HB1.out) HL.out.1 HL.out.2); rw [hq1] at C1; clear hb1)
              | (go_at_call 93; refine C1.out.mono ?_; rintro en w2 ⟨rfl, hb2⟩; have HB2 := hid (below_step HB1.out hb2); have HZ2 := hid ((hb2.block _ (lt_of_block HZ1.out)).trans HZ1.out); clear z0 z1 z2 z3; have z0 := cell_in HZ2.out 0 _ rfl; have z1 := cell_in HZ2.out 1 _ rfl; have z2 := cell_in HZ2.out 2 _ rfl; have z3 := cell_in HZ2.out 3 _ rfl; have C2 := hid (rgtNames_any (HH.out.old HB2.out) HL.out.1 HL.out.2); rw [hq2] at C2; clear hb2)
              | (go_at_call 94; refine C2.out.mono ?_; rintro en w3 ⟨rfl, hb3⟩; have HB3 := hid (below_step HB2.out hb3); have HZ3 := hid ((hb3.block _ (lt_of_block HZ2.out)).trans HZ2.out); clear z0 z1 z2 z3; have z0 := cell_in HZ3.out 0 _ rfl; have z1 := cell_in HZ3.out 1 _ rfl; have z2 := cell_in HZ3.out 2 _ rfl; have z3 := cell_in HZ3.out 3 _ rfl; have C3 := hid (rgtTab_any (HH.out.old HB3.out) HW.out.2.2.1); rw [hq3] at C3; clear hb3)
              | (go_at_call 95; refine C3.out.mono ?_; rintro en w4 ⟨rfl, hb4⟩; have HB4 := hid (below_step HB3.out hb4); have HZ4 := hid ((hb4.block _ (lt_of_block HZ3.out)).trans HZ3.out); clear z0 z1 z2 z3; have z0 := cell_in HZ4.out 0 _ rfl; have z1 := cell_in HZ4.out 1 _ rfl; have z2 := cell_in HZ4.out 2 _ rfl; have z3 := cell_in HZ4.out 3 _ rfl; have C4 := hid (rgtIdx_any (HH.out.old HB4.out) HW.out.2.2.2.1); rw [hq4] at C4; clear hb4)
              | (go_at_call 96; refine C4.out.mono ?_; rintro en w5 ⟨rfl, hb5⟩; have HB5 := hid (below_step HB4.out hb5); clear hb5))
            go_ret
            exact ⟨by rw [HR.out]; rfl, HB5.out⟩
end Go.Proofs.Ytafcbelkhhjcoaa
