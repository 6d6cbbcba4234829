/-
  LAYER 12, THE CODE's: leads, Drop, Step.
-/
import Derived.Test.YtafcbelkhhjcoaaSqx
import Derived.Test.YtafcbelkhhjcoaaSm
set_option linter.unusedVariables false
set_option linter.unusedSimpArgs false
set_option maxRecDepth 100000
namespace Go.Proofs.Ytafcbelkhhjcoaa
open Go.RowKit Go.Deep

set_option maxHeartbeats 16000000 in
theorem leads_any (w : World) (x : Idx) (a2 : Option Addr) (e2 : Nat) (fr st : Int) (bad : Bool) : Calls Try.prog 112 #[.agg #[.int .i64 x.id, .int .i64 x.table, .string ⟨x.name.toArray⟩, .slice a2 x.cols.length e2, .bool x.uniq, .int .i64 x.state, .bool x.bad], .int .i64 fr, .int .i64 st, .bool bad] w
    (fun e w' => e = .returned (.bool (!stepBad x fr st bad)) ∧ Below w.heap.size w w') := by
  have HE : Hid ((!stepBad x fr st bad) = ((x.state == fr) && (((st == nextI x.state) && (st != x.state)) || (bad && (x.state == 3) && (st == 6))))) := hid (by
    unfold stepBad
    by_cases h : x.state = fr
    · subst h
      simp only [bne_self_eq_false, beq_self_eq_true, Bool.false_or, Bool.true_and]
      have h1 : (st != x.state) = !(st == x.state) := rfl
      have h2 : (st != nextI x.state) = !(st == nextI x.state) := rfl
      rw [h1, h2]
      cases bad <;> cases (x.state == 3) <;> cases (st == 6) <;> cases (st == nextI x.state) <;> cases (st == x.state) <;> rfl
    · have h1 : (x.state == fr) = false := by simp [h]
      have h2 : (x.state != fr) = true := by simp [h]
      rw [h1, h2]; rfl)
  go_enter Try.func112, Try.ntmps112
  go_upto_region 1 with fail
  have hb := (Below.refl w.heap.size w).alloc (Nat.le_refl _) (.cells #[.int .i64 x.id, .int .i64 x.table, .string ⟨x.name.toArray⟩, .slice a2 x.cols.length e2, .bool x.uniq, .int .i64 x.state, .bool x.bad] 37)
  have hz := heap_alloc_new w (.cells #[.int .i64 x.id, .int .i64 x.table, .string ⟨x.name.toArray⟩, .slice a2 x.cols.length e2, .bool x.uniq, .int .i64 x.state, .bool x.bad] 37)
  generalize w.alloc (.cells #[.int .i64 x.id, .int .i64 x.table, .string ⟨x.name.toArray⟩, .slice a2 x.cols.length e2, .bool x.uniq, .int .i64 x.state, .bool x.bad] 37) = w1 at *
  have HB := hid hb
  have HZ := hid hz
  clear hb hz
  have z0 := cell_in HZ.out 0 _ rfl
  have z1 := cell_in HZ.out 1 _ rfl
  have z2 := cell_in HZ.out 2 _ rfl
  have z3 := cell_in HZ.out 3 _ rfl
  have z4 := cell_in HZ.out 4 _ rfl
  have z5 := cell_in HZ.out 5 _ rfl
  have z6 := cell_in HZ.out 6 _ rfl
  have CN := hid (next_any w1 x.id x.table x.state ⟨x.name.toArray⟩ (.slice a2 x.cols.length e2) x.uniq x.bad rfl)
  generalize nextI x.state = nx at *
  cases h1 : (st == nx) with
  | false =>
    rw [h1] at HE
    cases bad with
    | false =>
      cases h5 : (x.state == fr) with
      | false =>
        rw [h5] at HE
        go_wp2_with (first | (go_at_call 28; refine CN.out.mono ?_; rintro en w2 ⟨rfl, hb2⟩; have HB2 := hid (below_step HB.out hb2); have hz2 := (hb2.block _ (lt_of_block HZ.out)).trans HZ.out; clear z0 z1 z2 z3 z4 z5 z6; have z5 := cell_in hz2 5 _ rfl; clear hb2 hz2))
        go_ret
        exact ⟨by rw [HE.out]; rfl, HB2.out⟩
      | true =>
        rw [h5] at HE
        go_wp2_with (first | (go_at_call 28; refine CN.out.mono ?_; rintro en w2 ⟨rfl, hb2⟩; have HB2 := hid (below_step HB.out hb2); have hz2 := (hb2.block _ (lt_of_block HZ.out)).trans HZ.out; clear z0 z1 z2 z3 z4 z5 z6; have z5 := cell_in hz2 5 _ rfl; clear hb2 hz2))
        go_ret
        exact ⟨by rw [HE.out]; rfl, HB2.out⟩
    | true =>
      cases h3 : (x.state == 3) with
      | false =>
        rw [h3] at HE
        cases h5 : (x.state == fr) with
        | false =>
          rw [h5] at HE
          go_wp2_with (first | (go_at_call 28; refine CN.out.mono ?_; rintro en w2 ⟨rfl, hb2⟩; have HB2 := hid (below_step HB.out hb2); have hz2 := (hb2.block _ (lt_of_block HZ.out)).trans HZ.out; clear z0 z1 z2 z3 z4 z5 z6; have z5 := cell_in hz2 5 _ rfl; clear hb2 hz2))
          go_ret
          exact ⟨by rw [HE.out]; rfl, HB2.out⟩
        | true =>
          rw [h5] at HE
          go_wp2_with (first | (go_at_call 28; refine CN.out.mono ?_; rintro en w2 ⟨rfl, hb2⟩; have HB2 := hid (below_step HB.out hb2); have hz2 := (hb2.block _ (lt_of_block HZ.out)).trans HZ.out; clear z0 z1 z2 z3 z4 z5 z6; have z5 := cell_in hz2 5 _ rfl; clear hb2 hz2))
          go_ret
          exact ⟨by rw [HE.out]; rfl, HB2.out⟩
      | true =>
        rw [h3] at HE
        cases h4 : (st == 6) with
        | false =>
          rw [h4] at HE
          cases h5 : (x.state == fr) with
          | false =>
            rw [h5] at HE
            go_wp2_with (first | (go_at_call 28; refine CN.out.mono ?_; rintro en w2 ⟨rfl, hb2⟩; have HB2 := hid (below_step HB.out hb2); have hz2 := (hb2.block _ (lt_of_block HZ.out)).trans HZ.out; clear z0 z1 z2 z3 z4 z5 z6; have z5 := cell_in hz2 5 _ rfl; clear hb2 hz2))
            go_ret
            exact ⟨by rw [HE.out]; rfl, HB2.out⟩
          | true =>
            rw [h5] at HE
            go_wp2_with (first | (go_at_call 28; refine CN.out.mono ?_; rintro en w2 ⟨rfl, hb2⟩; have HB2 := hid (below_step HB.out hb2); have hz2 := (hb2.block _ (lt_of_block HZ.out)).trans HZ.out; clear z0 z1 z2 z3 z4 z5 z6; have z5 := cell_in hz2 5 _ rfl; clear hb2 hz2))
            go_ret
            exact ⟨by rw [HE.out]; rfl, HB2.out⟩
        | true =>
          rw [h4] at HE
          cases h5 : (x.state == fr) with
          | false =>
            rw [h5] at HE
            go_wp2_with (first | (go_at_call 28; refine CN.out.mono ?_; rintro en w2 ⟨rfl, hb2⟩; have HB2 := hid (below_step HB.out hb2); have hz2 := (hb2.block _ (lt_of_block HZ.out)).trans HZ.out; clear z0 z1 z2 z3 z4 z5 z6; have z5 := cell_in hz2 5 _ rfl; clear hb2 hz2))
            go_ret
            exact ⟨by rw [HE.out]; rfl, HB2.out⟩
          | true =>
            rw [h5] at HE
            go_wp2_with (first | (go_at_call 28; refine CN.out.mono ?_; rintro en w2 ⟨rfl, hb2⟩; have HB2 := hid (below_step HB.out hb2); have hz2 := (hb2.block _ (lt_of_block HZ.out)).trans HZ.out; clear z0 z1 z2 z3 z4 z5 z6; have z5 := cell_in hz2 5 _ rfl; clear hb2 hz2))
            go_ret
            exact ⟨by rw [HE.out]; rfl, HB2.out⟩
  | true =>
    rw [h1] at HE
    cases h2 : (st != x.state) with
    | false =>
      rw [h2] at HE
      cases bad with
      | false =>
        cases h5 : (x.state == fr) with
        | false =>
          rw [h5] at HE
          go_wp2_with (first | (go_at_call 28; refine CN.out.mono ?_; rintro en w2 ⟨rfl, hb2⟩; have HB2 := hid (below_step HB.out hb2); have hz2 := (hb2.block _ (lt_of_block HZ.out)).trans HZ.out; clear z0 z1 z2 z3 z4 z5 z6; have z5 := cell_in hz2 5 _ rfl; clear hb2 hz2))
          go_ret
          exact ⟨by rw [HE.out]; rfl, HB2.out⟩
        | true =>
          rw [h5] at HE
          go_wp2_with (first | (go_at_call 28; refine CN.out.mono ?_; rintro en w2 ⟨rfl, hb2⟩; have HB2 := hid (below_step HB.out hb2); have hz2 := (hb2.block _ (lt_of_block HZ.out)).trans HZ.out; clear z0 z1 z2 z3 z4 z5 z6; have z5 := cell_in hz2 5 _ rfl; clear hb2 hz2))
          go_ret
          exact ⟨by rw [HE.out]; rfl, HB2.out⟩
      | true =>
        cases h3 : (x.state == 3) with
        | false =>
          rw [h3] at HE
          cases h5 : (x.state == fr) with
          | false =>
            rw [h5] at HE
            go_wp2_with (first | (go_at_call 28; refine CN.out.mono ?_; rintro en w2 ⟨rfl, hb2⟩; have HB2 := hid (below_step HB.out hb2); have hz2 := (hb2.block _ (lt_of_block HZ.out)).trans HZ.out; clear z0 z1 z2 z3 z4 z5 z6; have z5 := cell_in hz2 5 _ rfl; clear hb2 hz2))
            go_ret
            exact ⟨by rw [HE.out]; rfl, HB2.out⟩
          | true =>
            rw [h5] at HE
            go_wp2_with (first | (go_at_call 28; refine CN.out.mono ?_; rintro en w2 ⟨rfl, hb2⟩; have HB2 := hid (below_step HB.out hb2); have hz2 := (hb2.block _ (lt_of_block HZ.out)).trans HZ.out; clear z0 z1 z2 z3 z4 z5 z6; have z5 := cell_in hz2 5 _ rfl; clear hb2 hz2))
            go_ret
            exact ⟨by rw [HE.out]; rfl, HB2.out⟩
        | true =>
          rw [h3] at HE
          cases h4 : (st == 6) with
          | false =>
            rw [h4] at HE
            cases h5 : (x.state == fr) with
            | false =>
              rw [h5] at HE
              go_wp2_with (first | (go_at_call 28; refine CN.out.mono ?_; rintro en w2 ⟨rfl, hb2⟩; have HB2 := hid (below_step HB.out hb2); have hz2 := (hb2.block _ (lt_of_block HZ.out)).trans HZ.out; clear z0 z1 z2 z3 z4 z5 z6; have z5 := cell_in hz2 5 _ rfl; clear hb2 hz2))
              go_ret
              exact ⟨by rw [HE.out]; rfl, HB2.out⟩
            | true =>
              rw [h5] at HE
              go_wp2_with (first | (go_at_call 28; refine CN.out.mono ?_; rintro en w2 ⟨rfl, hb2⟩; have HB2 := hid (below_step HB.out hb2); have hz2 := (hb2.block _ (lt_of_block HZ.out)).trans HZ.out; clear z0 z1 z2 z3 z4 z5 z6; have z5 := cell_in hz2 5 _ rfl; clear hb2 hz2))
              go_ret
              exact ⟨by rw [HE.out]; rfl, HB2.out⟩
          | true =>
            rw [h4] at HE
            cases h5 : (x.state == fr) with
            | false =>
              rw [h5] at HE
              go_wp2_with (first | (go_at_call 28; refine CN.out.mono ?_; rintro en w2 ⟨rfl, hb2⟩; have HB2 := hid (below_step HB.out hb2); have hz2 := (hb2.block _ (lt_of_block HZ.out)).trans HZ.out; clear z0 z1 z2 z3 z4 z5 z6; have z5 := cell_in hz2 5 _ rfl; clear hb2 hz2))
              go_ret
              exact ⟨by rw [HE.out]; rfl, HB2.out⟩
            | true =>
              rw [h5] at HE
              go_wp2_with (first | (go_at_call 28; refine CN.out.mono ?_; rintro en w2 ⟨rfl, hb2⟩; have HB2 := hid (below_step HB.out hb2); have hz2 := (hb2.block _ (lt_of_block HZ.out)).trans HZ.out; clear z0 z1 z2 z3 z4 z5 z6; have z5 := cell_in hz2 5 _ rfl; clear hb2 hz2))
              go_ret
              exact ⟨by rw [HE.out]; rfl, HB2.out⟩
    | true =>
      rw [h2] at HE
      cases bad with
      | false =>
        cases h5 : (x.state == fr) with
        | false =>
          rw [h5] at HE
          go_wp2_with (first | (go_at_call 28; refine CN.out.mono ?_; rintro en w2 ⟨rfl, hb2⟩; have HB2 := hid (below_step HB.out hb2); have hz2 := (hb2.block _ (lt_of_block HZ.out)).trans HZ.out; clear z0 z1 z2 z3 z4 z5 z6; have z5 := cell_in hz2 5 _ rfl; clear hb2 hz2))
          go_ret
          exact ⟨by rw [HE.out]; rfl, HB2.out⟩
        | true =>
          rw [h5] at HE
          go_wp2_with (first | (go_at_call 28; refine CN.out.mono ?_; rintro en w2 ⟨rfl, hb2⟩; have HB2 := hid (below_step HB.out hb2); have hz2 := (hb2.block _ (lt_of_block HZ.out)).trans HZ.out; clear z0 z1 z2 z3 z4 z5 z6; have z5 := cell_in hz2 5 _ rfl; clear hb2 hz2))
          go_ret
          exact ⟨by rw [HE.out]; rfl, HB2.out⟩
      | true =>
        cases h3 : (x.state == 3) with
        | false =>
          rw [h3] at HE
          cases h5 : (x.state == fr) with
          | false =>
            rw [h5] at HE
            go_wp2_with (first | (go_at_call 28; refine CN.out.mono ?_; rintro en w2 ⟨rfl, hb2⟩; have HB2 := hid (below_step HB.out hb2); have hz2 := (hb2.block _ (lt_of_block HZ.out)).trans HZ.out; clear z0 z1 z2 z3 z4 z5 z6; have z5 := cell_in hz2 5 _ rfl; clear hb2 hz2))
            go_ret
            exact ⟨by rw [HE.out]; rfl, HB2.out⟩
          | true =>
            rw [h5] at HE
            go_wp2_with (first | (go_at_call 28; refine CN.out.mono ?_; rintro en w2 ⟨rfl, hb2⟩; have HB2 := hid (below_step HB.out hb2); have hz2 := (hb2.block _ (lt_of_block HZ.out)).trans HZ.out; clear z0 z1 z2 z3 z4 z5 z6; have z5 := cell_in hz2 5 _ rfl; clear hb2 hz2))
            go_ret
            exact ⟨by rw [HE.out]; rfl, HB2.out⟩
        | true =>
          rw [h3] at HE
          cases h4 : (st == 6) with
          | false =>
            rw [h4] at HE
            cases h5 : (x.state == fr) with
            | false =>
              rw [h5] at HE
              go_wp2_with (first | (go_at_call 28; refine CN.out.mono ?_; rintro en w2 ⟨rfl, hb2⟩; have HB2 := hid (below_step HB.out hb2); have hz2 := (hb2.block _ (lt_of_block HZ.out)).trans HZ.out; clear z0 z1 z2 z3 z4 z5 z6; have z5 := cell_in hz2 5 _ rfl; clear hb2 hz2))
              go_ret
              exact ⟨by rw [HE.out]; rfl, HB2.out⟩
            | true =>
              rw [h5] at HE
              go_wp2_with (first | (go_at_call 28; refine CN.out.mono ?_; rintro en w2 ⟨rfl, hb2⟩; have HB2 := hid (below_step HB.out hb2); have hz2 := (hb2.block _ (lt_of_block HZ.out)).trans HZ.out; clear z0 z1 z2 z3 z4 z5 z6; have z5 := cell_in hz2 5 _ rfl; clear hb2 hz2))
              go_ret
              exact ⟨by rw [HE.out]; rfl, HB2.out⟩
          | true =>
            rw [h4] at HE
            cases h5 : (x.state == fr) with
            | false =>
              rw [h5] at HE
              go_wp2_with (first | (go_at_call 28; refine CN.out.mono ?_; rintro en w2 ⟨rfl, hb2⟩; have HB2 := hid (below_step HB.out hb2); have hz2 := (hb2.block _ (lt_of_block HZ.out)).trans HZ.out; clear z0 z1 z2 z3 z4 z5 z6; have z5 := cell_in hz2 5 _ rfl; clear hb2 hz2))
              go_ret
              exact ⟨by rw [HE.out]; rfl, HB2.out⟩
            | true =>
              rw [h5] at HE
              go_wp2_with (first | (go_at_call 28; refine CN.out.mono ?_; rintro en w2 ⟨rfl, hb2⟩; have HB2 := hid (below_step HB.out hb2); have hz2 := (hb2.block _ (lt_of_block HZ.out)).trans HZ.out; clear z0 z1 z2 z3 z4 z5 z6; have z5 := cell_in hz2 5 _ rfl; clear hb2 hz2))
              go_ret
              exact ⟨by rw [HE.out]; rfl, HB2.out⟩
end Go.Proofs.Ytafcbelkhhjcoaa
