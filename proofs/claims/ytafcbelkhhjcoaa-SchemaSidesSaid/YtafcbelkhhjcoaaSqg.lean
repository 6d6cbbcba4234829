/-
  LAYER 12, THE CODE's: tableFits, indexFits.
-/
import Derived.Test.YtafcbelkhhjcoaaSqf
set_option linter.unusedVariables false
set_option linter.unusedSimpArgs false
set_option maxRecDepth 100000
namespace Go.Proofs.Ytafcbelkhhjcoaa
open Go.RowKit Go.Deep

set_option maxHeartbeats 4000000 in
theorem tabFits_any {N : Nat → Prop} {w : World} {cs : List Value} {t : Tab} (h : TabN N w cs t) (hw : t.W) : Calls Try.prog 113 #[.agg cs.toArray] w (fun e w' => e = .returned (.bool (tabB t)) ∧ Below w.heap.size w w') := by
  have HTN := hid h
  obtain ⟨x2, y2, rfl, ⟨hx2, -⟩, ⟨hy2, -⟩, -, -⟩ := h
  obtain ⟨-, hn, hcl, -, -, -⟩ := hw
  obtain ⟨a1, e1, rfl, p1, p2, pc⟩ := cl_cells hx2
  obtain ⟨a2, e2, rfl, h1, h2, hc⟩ := zs_cells hy2
  have HX2 := hid hx2
  have HY2 := hid hy2
  have HCL := hid hcl
  have HN := hid hn
  clear hx2 hy2 hc pc hcl hn
  go_enter Try.func113, Try.ntmps113
  go_upto_region 1 with fail
  have hb := (Below.refl w.heap.size w).alloc (Nat.le_refl _) (.cells #[.int .i64 t.id, .string ⟨t.name.toArray⟩, .slice a1 t.cols.length e1, .slice a2 t.key.length e2] 33)
  have hz := heap_alloc_new w (.cells #[.int .i64 t.id, .string ⟨t.name.toArray⟩, .slice a1 t.cols.length e1, .slice a2 t.key.length e2] 33)
  generalize w.alloc (.cells #[.int .i64 t.id, .string ⟨t.name.toArray⟩, .slice a1 t.cols.length e1, .slice a2 t.key.length e2] 33) = w1 at *
  have HB := hid hb
  have HZ := hid hz
  clear hb hz
  have z1 := cell_in HZ.out 1 _ rfl
  have z2 := cell_in HZ.out 2 _ rfl
  have CM := hid (mayBe_any w1 t.name HN.out)
  have CC := hid (colsFit_any w1 (HX2.out.old HB.out) HCL.out)
  have HE := hid (fitTab_eq t)
  cases hnb : nameB t.name with
  | false =>
    have HR : Hid (tabB t = false) := hid (by rw [← HE.out, hnb]; rfl)
    rw [hnb] at CM
    go_wp2_with (first | (go_at_call 190; refine CM.out.mono ?_; rintro en w4 ⟨rfl, rfl⟩))
    go_ret
    exact ⟨by rw [HR.out]; rfl, HB.out⟩
  | true =>
    rw [hnb] at CM
    cases hcb : fitCols t.cols with
    | false =>
      have HR : Hid (tabB t = false) := hid (by rw [← HE.out, hcb, Bool.and_false]; rfl)
      rw [hcb] at CC
      go_wp2_with (first
        | (go_at_call 190; refine CM.out.mono ?_; rintro en w4 ⟨rfl, rfl⟩)
        | (go_at_call 193; refine CC.out.mono ?_; rintro en w5 ⟨rfl, hb5⟩; have HB5 := hid (below_step HB.out hb5); clear hb5))
      go_ret
      exact ⟨by rw [HR.out]; rfl, HB5.out⟩
    | true =>
      rw [hcb] at CC
      cases hpb : placesB t.key t.cols.length with
      | false =>
        have HR : Hid (tabB t = false) := hid (by rw [← HE.out, hpb, Bool.and_false]; rfl)
        go_wp2_with (first
          | (go_at_call 190; refine CM.out.mono ?_; rintro en w4 ⟨rfl, rfl⟩)
          | (go_at_call 193; refine CC.out.mono ?_; rintro en w5 ⟨rfl, hb5⟩; have HB5 := hid (below_step HB.out hb5); have hz5 := (hb5.block _ (lt_of_block HZ.out)).trans HZ.out; have y0 := cell_in hz5 0 _ rfl; have y1 := cell_in hz5 1 _ rfl; have y2 := cell_in hz5 2 _ rfl; have y3 := cell_in hz5 3 _ rfl; have HZ5 := hid hz5; have CP := hid (placesFit_any (HY2.out.old HB5.out) (HTN.out.old HB5.out)); rw [hpb] at CP; clear hb5 hz5)
          | (go_at_call 191; refine CP.out.mono ?_; rintro en w6 ⟨rfl, hb6⟩; have HB6 := hid (below_step HB5.out hb6); clear hb6))
        go_ret
        exact ⟨by rw [HR.out]; rfl, HB6.out⟩
      | true =>
        have HPB := hid hpb
        have HR : Hid (tabB t = keyF t) := hid (by rw [← HE.out, hnb, hcb, hpb]; rfl)
        go_wp2_with (first
          | (go_at_call 190; refine CM.out.mono ?_; rintro en w4 ⟨rfl, rfl⟩)
          | (go_at_call 193; refine CC.out.mono ?_; rintro en w5 ⟨rfl, hb5⟩; have HB5 := hid (below_step HB.out hb5); have hz5 := (hb5.block _ (lt_of_block HZ.out)).trans HZ.out; have y0 := cell_in hz5 0 _ rfl; have y1 := cell_in hz5 1 _ rfl; have y2 := cell_in hz5 2 _ rfl; have y3 := cell_in hz5 3 _ rfl; have HZ5 := hid hz5; have CP := hid (placesFit_any (HY2.out.old HB5.out) (HTN.out.old HB5.out)); rw [hpb] at CP; clear hb5 hz5)
          | (go_at_call 191; refine CP.out.mono ?_; rintro en w6 ⟨rfl, hb6⟩; have HB6 := hid (below_step HB5.out hb6); have hz6 := (hb6.block _ (lt_of_block HZ5.out)).trans HZ5.out; have x0 := cell_in hz6 0 _ rfl; have x1 := cell_in hz6 1 _ rfl; have x2 := cell_in hz6 2 _ rfl; have x3 := cell_in hz6 3 _ rfl; have CK := hid (keyFits_any (HTN.out.old HB6.out) HPB.out); clear hb6 hz6)
          | (go_at_call 194; refine CK.out.mono ?_; rintro en w7 ⟨rfl, hb7⟩; have HB7 := hid (below_step HB6.out hb7); clear hb7))
        go_ret
        exact ⟨by rw [HR.out]; rfl, HB7.out⟩

set_option maxHeartbeats 4000000 in
theorem idxFits_any {N : Nat → Prop} {w : World} {cs ds : List Value} {x : Idx} {t : Tab} (hx : IdxN N w cs x) (h : TabN N w ds t) (hw : x.W) : Calls Try.prog 107 #[.agg cs.toArray, .agg ds.toArray] w (fun e w' => e = .returned (.bool (nameB x.name && placesB x.cols t.cols.length)) ∧ Below w.heap.size w w') := by
  have HTN := hid h
  obtain ⟨x2, y2, rfl, ⟨hx2, -⟩, ⟨hy2, -⟩, -, -⟩ := h
  obtain ⟨y, rfl, ⟨hy, -⟩, -⟩ := hx
  obtain ⟨-, -, hn, -⟩ := hw
  obtain ⟨a1, e1, rfl, p1, p2, pc⟩ := cl_cells hx2
  obtain ⟨a2, e2, rfl, h1, h2, hc⟩ := zs_cells hy2
  obtain ⟨a3, e3, rfl, g1, g2, gc⟩ := zs_cells hy
  have HY := hid hy
  have HN := hid hn
  clear hx2 hy2 hc pc hn hy gc
  go_enter Try.func107, Try.ntmps107
  go_upto_region 1 with fail
  have hb0 := (Below.refl w.heap.size w).alloc (Nat.le_refl _) (.cells #[.int .i64 x.id, .int .i64 x.table, .string ⟨x.name.toArray⟩, .slice a3 x.cols.length e3, .bool x.uniq, .int .i64 x.state, .bool x.bad] 37)
  have hz0 := heap_alloc_new w (.cells #[.int .i64 x.id, .int .i64 x.table, .string ⟨x.name.toArray⟩, .slice a3 x.cols.length e3, .bool x.uniq, .int .i64 x.state, .bool x.bad] 37)
  have hsz : (w.alloc (.cells #[.int .i64 x.id, .int .i64 x.table, .string ⟨x.name.toArray⟩, .slice a3 x.cols.length e3, .bool x.uniq, .int .i64 x.state, .bool x.bad] 37)).heap.size = w.heap.size + 1 := by simp
  generalize w.alloc (.cells #[.int .i64 x.id, .int .i64 x.table, .string ⟨x.name.toArray⟩, .slice a3 x.cols.length e3, .bool x.uniq, .int .i64 x.state, .bool x.bad] 37) = w0 at *
  have hb := hb0.alloc (by omega) (.cells #[.int .i64 t.id, .string ⟨t.name.toArray⟩, .slice a1 t.cols.length e1, .slice a2 t.key.length e2] 33)
  have hbz := (Below.refl w0.heap.size w0).alloc (Nat.le_refl _) (.cells #[.int .i64 t.id, .string ⟨t.name.toArray⟩, .slice a1 t.cols.length e1, .slice a2 t.key.length e2] 33)
  have hz := heap_alloc_new w0 (.cells #[.int .i64 t.id, .string ⟨t.name.toArray⟩, .slice a1 t.cols.length e1, .slice a2 t.key.length e2] 33)
  rw [hsz] at hz
  generalize w0.alloc (.cells #[.int .i64 t.id, .string ⟨t.name.toArray⟩, .slice a1 t.cols.length e1, .slice a2 t.key.length e2] 33) = w1 at *
  have hz2 := (hbz.block _ (lt_of_block hz0)).trans hz0
  have HB := hid hb
  clear hb hb0 hbz hz0 hsz
  have i2 := cell_in hz2 2 _ rfl
  have i3 := cell_in hz2 3 _ rfl
  have z0 := cell_in hz 0 _ rfl
  have z1 := cell_in hz 1 _ rfl
  have z2 := cell_in hz 2 _ rfl
  have z3 := cell_in hz 3 _ rfl
  clear hz hz2
  have CM := hid (mayBe_any w1 x.name HN.out)
  have CP := hid (placesFit_any (HY.out.old HB.out) (HTN.out.old HB.out))
  cases hnb : nameB x.name with
  | false =>
    rw [hnb] at CM
    go_wp2_with (first | (go_at_call 190; refine CM.out.mono ?_; rintro en w4 ⟨rfl, rfl⟩))
    go_ret
    exact ⟨by rw [hnb]; rfl, HB.out⟩
  | true =>
    rw [hnb] at CM
    go_wp2_with (first
      | (go_at_call 190; refine CM.out.mono ?_; rintro en w4 ⟨rfl, rfl⟩)
      | (go_at_call 191; refine CP.out.mono ?_; rintro en w6 ⟨rfl, hb6⟩; have HB6 := hid (below_step HB.out hb6); clear hb6))
    go_ret
    exact ⟨by rw [hnb]; rfl, HB6.out⟩
end Go.Proofs.Ytafcbelkhhjcoaa
