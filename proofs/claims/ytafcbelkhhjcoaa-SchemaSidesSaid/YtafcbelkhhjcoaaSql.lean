/-
  LAYER 12, THE CODE's: rightIndexes, Right.
-/
import Derived.Test.YtafcbelkhhjcoaaSqk
import Derived.Test.YtafcbelkhhjcoaaTk
import Derived.Test.YtafcbelkhhjcoaaSi
set_option linter.unusedVariables false
set_option linter.unusedSimpArgs false
set_option maxRecDepth 100000
namespace Go.Proofs.Ytafcbelkhhjcoaa
open Go.RowKit Go.Deep

theorem idxF_none {C : Cat} {x : Idx} (h : C.tabs.find? (fun t => decide (t.id = x.table)) = none) : idxF C x = false := by unfold idxF byId; rw [h]; rfl
theorem idxF_some {C : Cat} {x : Idx} {t : Tab} (h : C.tabs.find? (fun t => decide (t.id = x.table)) = some t) : idxF C x = (nameB x.name && placesB x.cols t.cols.length && decide (1 ≤ x.state) && decide (x.state ≤ 7)) := by unfold idxF byId; rw [h]

set_option maxHeartbeats 8000000 in
theorem rgtIdx_any {N : Nat → Prop} {w : World} {cs : List Value} {C : Cat} (h : CatN N w cs C) (hw : ∀ t ∈ C.idxs, t.W) : Calls Try.prog 96 #[.agg cs.toArray] w (fun e w' => e = .returned (.bool (C.idxs.all (idxF C))) ∧ Below w.heap.size w w') := by
  obtain ⟨x, y, rfl, hx, hy, -, -⟩ := h
  obtain ⟨ao, c, rfl, h1, h2, tc⟩ := tb_cells hx
  obtain ⟨ko, d, rfl, g1, g2, hc⟩ := ix_cells hy
  have hlm : C.idxs.length ≤ 9223372036854775807 := by unfold maxLen at g2; omega
  have htm : C.tabs.length ≤ 9223372036854775807 := by unfold maxLen at h2; omega
  have HTT := hid hx
  have HTC := hid tc
  have HC := hid hc
  have HW := hid hw
  clear hx hy hc hw tc
  go_enter Try.func96, Try.ntmps96
  go_upto_region 1 with fail
  have hb := (Below.refl w.heap.size w).alloc (Nat.le_refl _) (.cells #[.int .i64 C.ver, .int .i64 C.nxt, .slice ao C.tabs.length c, .slice ko C.idxs.length d] 25)
  have hz := heap_alloc_new w (.cells #[.int .i64 C.ver, .int .i64 C.nxt, .slice ao C.tabs.length c, .slice ko C.idxs.length d] 25)
  generalize w.alloc (.cells #[.int .i64 C.ver, .int .i64 C.nxt, .slice ao C.tabs.length c, .slice ko C.idxs.length d] 25) = w1 at *
  have HB1 := hid hb
  have HZ := hid hz
  clear hb hz
  have z3 := cell_in HZ.out 3 _ rfl
  go_wp2_with fail
  go_loopw [9] (fun j wr => ∃ k : Nat, k ≤ C.idxs.length ∧ j = .int .i64 (k : Int) ∧ Below w1.heap.size w1 wr ∧ (C.idxs.take k).all (idxF C) = true)
    (fun j _ => C.idxs.length - (intOf j).toNat)
  case atStart => exact ⟨0, by omega, rfl, Below.refl _ _, rfl⟩
  case round =>
    obtain ⟨k, hk, rfl, hb, ha⟩ := hrel
    have HBR := hid hb
    have HB := hid (below_step HB1.out hb)
    have HA := hid ha
    have hzr := (hb.block _ (lt_of_block HZ.out)).trans HZ.out
    have HZR := hid hzr
    have zr2 := cell_in hzr 2 _ rfl
    clear hb ha hzr z3
    by_cases hlt : k < C.idxs.length
    · obtain ⟨u, hu⟩ : ∃ u, C.idxs[k]? = some u := ⟨_, List.getElem?_eq_getElem hlt⟩
      obtain ⟨b, off, a1, e1, rfl, ht, c0, c1, c2, c3, c4, c5, c6⟩ := HC.out k u hu
      have hki : (k : Int) < (C.idxs.length : Int) := by omega
      have k0 := (HB.out.cell (block_cell c0)).trans c0
      have k1 := (HB.out.cell (block_cell c1)).trans c1
      have k2 := (HB.out.cell (block_cell c2)).trans c2
      have k3 := (HB.out.cell (block_cell c3)).trans c3
      have k4 := (HB.out.cell (block_cell c4)).trans c4
      have k5 := (HB.out.cell (block_cell c5)).trans c5
      have k6 := (HB.out.cell (block_cell c6)).trans c6
      have HTN := hid ht
      clear c0 c1 c2 c3 c4 c5 c6 ht
      have HT := hid (all_take' (p := idxF C) hu HA.out)
      have HF : Hid (idxF C u = false → C.idxs.all (idxF C) = false) := hid (fun h => all_no hu h)
      have HUW := hid (HW.out u (List.mem_of_getElem? hu))
      clear hu
      go_upto_region 4 with fail
      have hb3 := (Below.refl wr.heap.size wr).alloc (Nat.le_refl _) (.cells #[.int .i64 u.id, .int .i64 u.table, .string ⟨u.name.toArray⟩, .slice a1 u.cols.length e1, .bool u.uniq, .int .i64 u.state, .bool u.bad] 37)
      have hz3 := heap_alloc_new wr (.cells #[.int .i64 u.id, .int .i64 u.table, .string ⟨u.name.toArray⟩, .slice a1 u.cols.length e1, .bool u.uniq, .int .i64 u.state, .bool u.bad] 37)
      generalize wr.alloc (.cells #[.int .i64 u.id, .int .i64 u.table, .string ⟨u.name.toArray⟩, .slice a1 u.cols.length e1, .bool u.uniq, .int .i64 u.state, .bool u.bad] 37) = w3 at *
      have HB3 := hid (below_step HB.out hb3)
      have HW3 := hid (below_step HBR.out hb3)
      have HZ3 := hid hz3
      have y1 := cell_in hz3 1 _ rfl
      have hc3 := (hb3.block _ (lt_of_block HZR.out)).trans HZR.out
      have x2 := cell_in hc3 2 _ rfl
      have HZC := hid hc3
      have CF := hid (rightIndexesF_any w3 (HTT.out.oldT HB3.out) u.table wr.heap.size y1)
      clear k0 k1 k2 k3 k4 k5 k6
      clear hb3 hz3 hc3
      go_upto_region 5 with (first | (go_at_call 180; refine CF.out.mono ?_; rintro en w4 ⟨rfl, hb4⟩; have HB4 := hid (below_step HB3.out hb4); have HW4 := hid (below_step HW3.out hb4); have hz4 := (hb4.block _ (lt_of_block HZ3.out)).trans HZ3.out; have hc4 := (hb4.block _ (lt_of_block HZC.out)).trans HZC.out; have HZ4 := hid hz4; have HZC4 := hid hc4; clear hb4 hz4 hc4))
      rcases fidx_cases (fun t => decide (t.id = u.table)) C.tabs with ⟨f1, f2, -⟩ | ⟨m, t, f1, f2, f3, f4, f5⟩
      · have HF2 := hid (HF.out (idxF_none f2))
        rw [f1]
        clear HF HT f1 f2
        have CF := CF
        go_quiet (fail)
        go_wp2_with fail
        go_ret
        exact ⟨by rw [HF2.out]; rfl, below_drawnS HB4.out _⟩
      · have HFE := hid (idxF_some (x := u) f3)
        obtain ⟨tb, toff, ta1, te1, ta2, te2, rfl, ht, c0, c1, c2, c3⟩ := HTC.out m t f2
        have hml : m < C.tabs.length := (List.getElem?_eq_some_iff.1 f2).1
        have hmi : (m : Int) < (C.tabs.length : Int) := by omega
        have hm0 : ¬ (m : Int) < 0 := by omega
        rw [f1]
        clear f1 f2 f3 f4 f5
        have k0 := (HB4.out.cell (block_cell c0)).trans c0
        have k1 := (HB4.out.cell (block_cell c1)).trans c1
        have k2 := (HB4.out.cell (block_cell c2)).trans c2
        have k3 := (HB4.out.cell (block_cell c3)).trans c3
        have i0 := cell_in HZ4.out 0 _ rfl
        have i1 := cell_in HZ4.out 1 _ rfl
        have i2 := cell_in HZ4.out 2 _ rfl
        have i3 := cell_in HZ4.out 3 _ rfl
        have i4 := cell_in HZ4.out 4 _ rfl
        have i5 := cell_in HZ4.out 5 _ rfl
        have i6 := cell_in HZ4.out 6 _ rfl
        have q2 := cell_in HZC4.out 2 _ rfl
        have HTM := hid ht
        clear c0 c1 c2 c3 ht
        have CI : Hid (∀ W, Below w4.heap.size w4 W → Calls Try.prog 107 #[.agg #[.int .i64 u.id, .int .i64 u.table, .string ⟨u.name.toArray⟩, .slice a1 u.cols.length e1, .bool u.uniq, .int .i64 u.state, .bool u.bad], .agg #[.int .i64 t.id, .string ⟨t.name.toArray⟩, .slice ta1 t.cols.length te1, .slice ta2 t.key.length te2]] W (fun e w' => e = .returned (.bool (nameB u.name && placesB u.cols t.cols.length)) ∧ Below W.heap.size W w')) :=
          hid (fun W hW => idxFits_any (HTN.out.old (below_step HB4.out hW)) (HTM.out.old (below_step HB4.out hW)) HUW.out)
        generalize (nameB u.name && placesB u.cols t.cols.length) = fb at *
        have HKp : Hid (∀ W, Below w4.heap.size w4 W → W.cell? ⟨tb, toff + m * 4, none⟩ = some (.int .i64 t.id) ∧ W.cell? ⟨tb, toff + m * 4 + 1, none⟩ = some (.string ⟨t.name.toArray⟩) ∧ W.cell? ⟨tb, toff + m * 4 + 2, none⟩ = some (.slice ta1 t.cols.length te1) ∧ W.cell? ⟨tb, toff + m * 4 + 3, none⟩ = some (.slice ta2 t.key.length te2) ∧
            W.cell? ⟨wr.heap.size, 0, none⟩ = some (.int .i64 u.id) ∧ W.cell? ⟨wr.heap.size, 1, none⟩ = some (.int .i64 u.table) ∧ W.cell? ⟨wr.heap.size, 2, none⟩ = some (.string ⟨u.name.toArray⟩) ∧ W.cell? ⟨wr.heap.size, 3, none⟩ = some (.slice a1 u.cols.length e1) ∧ W.cell? ⟨wr.heap.size, 4, none⟩ = some (.bool u.uniq) ∧ W.cell? ⟨wr.heap.size, 5, none⟩ = some (.int .i64 u.state) ∧ W.cell? ⟨wr.heap.size, 6, none⟩ = some (.bool u.bad) ∧
            W.cell? ⟨w.heap.size, 2, none⟩ = some (.slice (some ⟨tb, toff, none⟩) C.tabs.length c)) :=
          hid (fun W hW => ⟨(hW.cell (block_cell k0)).trans k0, (hW.cell (block_cell k1)).trans k1, (hW.cell (block_cell k2)).trans k2, (hW.cell (block_cell k3)).trans k3,
            (hW.cell (block_cell i0)).trans i0, (hW.cell (block_cell i1)).trans i1, (hW.cell (block_cell i2)).trans i2, (hW.cell (block_cell i3)).trans i3, (hW.cell (block_cell i4)).trans i4, (hW.cell (block_cell i5)).trans i5, (hW.cell (block_cell i6)).trans i6, (hW.cell (block_cell q2)).trans q2⟩)
        clear k0 k1 k2 k3 i0 i1 i2 i3 i4 i5 i6 q2
        cases fb with
        | false =>
          have HF2 := hid (HF.out (by rw [HFE.out]; rfl))
          clear HF HT HFE
          --GENa
          refine wp_region_noPanic ?_
          refine wp_region_held_drew (S := fun W => Hid (Below w4.heap.size w4 W)) (by kernel_rfl) (hid (Below.drew (Below.refl _ _))) (fun hHeld => ?_)
          generalize w4.drew = Wd at *
          refine tkH 0 (.int .i64 (m : Int)) rfl (by kernel_rfl) (fun _ _ _ => False.elim) hHeld (Or.inl ⟨by rfl, fun W9 hW => by clear hHeld hW; simp only [jA, jB, jC]; go_simp⟩) ?_
          simp only [Act.put, jA, jB, jC, jD, jE, jF]
          refine tkH 1 (.bool false) rfl (by kernel_rfl) (fun _ _ _ => False.elim) hHeld (Or.inl ⟨by rfl, fun W9 hW => by clear hHeld hW; simp only [jA, jB, jC]; go_simp⟩) ?_
          simp only [Act.put, jA, jB, jC, jD, jE, jF]
          refine tkH 2 (.bool false) rfl (by kernel_rfl) (fun _ _ _ => False.elim) hHeld (Or.inl ⟨by rfl, fun W9 hW => by clear hHeld hW; simp only [jA, jB, jC]; go_simp⟩) ?_
          simp only [Act.put, jA, jB, jC, jD, jE, jF]
          refine tkH 3 (.agg #[.int .i64 u.id, .int .i64 u.table, .string ⟨u.name.toArray⟩, .slice a1 u.cols.length e1, .bool u.uniq, .int .i64 u.state, .bool u.bad]) rfl (by kernel_rfl) (fun _ _ _ => False.elim) hHeld (Or.inl ⟨by rfl, fun W9 hW => by obtain ⟨q1, q2, q3, q4, q5, q6, q7, q8, q9, q10, q11, q12⟩ := HKp.out _ hW.out; clear hHeld hW; simp only [jA, jB, jC]; go_simp⟩) ?_
          simp only [Act.put, jA, jB, jC, jD, jE, jF]
          refine tkH 4 (.pointer (some ⟨w.heap.size, 2, none⟩)) rfl (by kernel_rfl) (fun _ _ _ => False.elim) hHeld (Or.inl ⟨by rfl, fun W9 hW => by clear hHeld hW; simp only [jA, jB, jC]; go_simp⟩) ?_
          simp only [Act.put, jA, jB, jC, jD, jE, jF]
          refine tkH 5 (.slice (some ⟨tb, toff, none⟩) C.tabs.length c) rfl (by kernel_rfl) (fun _ _ _ => False.elim) hHeld (Or.inl ⟨by rfl, fun W9 hW => by obtain ⟨q1, q2, q3, q4, q5, q6, q7, q8, q9, q10, q11, q12⟩ := HKp.out _ hW.out; clear hHeld hW; simp only [jA, jB, jC]; go_simp⟩) ?_
          simp only [Act.put, jA, jB, jC, jD, jE, jF]
          refine tkH 6 (.int .i64 (m : Int)) rfl (by kernel_rfl) (fun _ _ _ => False.elim) hHeld (Or.inl ⟨by rfl, fun W9 hW => by clear hHeld hW; simp only [jA, jB, jC]; go_simp⟩) ?_
          simp only [Act.put, jA, jB, jC, jD, jE, jF]
          refine tkH 7 (.pointer (some ⟨tb, toff + m * 4, none⟩)) rfl (by kernel_rfl) (fun _ _ _ => False.elim) hHeld (Or.inl ⟨by rfl, fun W9 hW => by clear hHeld hW; simp only [jA, jB, jC]; go_simp⟩) ?_
          simp only [Act.put, jA, jB, jC, jD, jE, jF]
          refine tkH 8 (.agg #[.int .i64 t.id, .string ⟨t.name.toArray⟩, .slice ta1 t.cols.length te1, .slice ta2 t.key.length te2]) rfl (by kernel_rfl) (fun _ _ _ => False.elim) hHeld (Or.inl ⟨by rfl, fun W9 hW => by obtain ⟨q1, q2, q3, q4, q5, q6, q7, q8, q9, q10, q11, q12⟩ := HKp.out _ hW.out; clear hHeld hW; simp only [jA, jB, jC]; go_simp⟩) ?_
          simp only [Act.put, jA, jB, jC, jD, jE, jF]
          refine rdH 9 (by kernel_rfl) rfl fun K hK => ?_
          go_simp
          go_wp2_with (first | (go_at_call 107; refine (CI.out _ hHeld.out).mono ?_; rintro en wb ⟨rfl, hb9⟩; have HB9 := hid (below_step hHeld.out hb9); clear hb9))
          refine hK.out _ _ HB9 (fun hHeld => ?_)
          clear hK K
          try simp only [Act.put, jA, jB, jC, jD, jE, jF]
          refine tkH 10 (.bool true) rfl (by kernel_rfl) (fun _ _ _ => False.elim) hHeld (Or.inl ⟨by rfl, fun W9 hW => by clear hHeld hW; simp only [jA, jB, jC]; go_simp⟩) ?_
          simp only [Act.put, jA, jB, jC, jD, jE, jF]
          refine tkH 11 (.bool true) rfl (by kernel_rfl) (fun _ _ _ => False.elim) hHeld (Or.inl ⟨by rfl, fun W9 hW => by clear hHeld hW; simp only [jA, jB, jC]; go_simp⟩) ?_
          simp only [Act.put, jA, jB, jC, jD, jE, jF]
          refine tkH 12 (.bool true) rfl (by kernel_rfl) (fun _ _ _ => False.elim) hHeld (Or.inl ⟨by rfl, fun W9 hW => by clear hHeld hW; simp only [jA, jB, jC]; go_simp⟩) ?_
          simp only [Act.put, jA, jB, jC, jD, jE, jF]
          refine tkH 13 (undef) rfl (by kernel_rfl) (fun _ _ _ => False.elim) hHeld (Or.inr ⟨by rfl, rfl⟩) ?_
          simp only [Act.put, jA, jB, jC, jD, jE, jF]
          refine tkH 14 (undef) rfl (by kernel_rfl) (fun _ _ _ => False.elim) hHeld (Or.inr ⟨by rfl, rfl⟩) ?_
          simp only [Act.put, jA, jB, jC, jD, jE, jF]
          refine tkH 15 (undef) rfl (by kernel_rfl) (fun _ _ _ => False.elim) hHeld (Or.inr ⟨by rfl, rfl⟩) ?_
          simp only [Act.put, jA, jB, jC, jD, jE, jF]
          refine tkH 16 (.bool true) rfl (by kernel_rfl) (fun _ _ _ => False.elim) hHeld (Or.inl ⟨by rfl, fun W9 hW => by clear hHeld hW; simp only [jA, jB, jC]; go_simp⟩) ?_
          simp only [Act.put, jA, jB, jC, jD, jE, jF]
          refine tkH 17 (.bool true) rfl (by kernel_rfl) (fun _ _ _ => False.elim) hHeld (Or.inl ⟨by rfl, fun W9 hW => by clear hHeld hW; simp only [jA, jB, jC]; go_simp⟩) ?_
          simp only [Act.put, jA, jB, jC, jD, jE, jF]
          refine tkH 18 (undef) rfl (by kernel_rfl) (fun _ _ _ => False.elim) hHeld (Or.inr ⟨by rfl, rfl⟩) ?_
          simp only [Act.put, jA, jB, jC, jD, jE, jF]
          refine tkH 19 (undef) rfl (by kernel_rfl) (fun _ _ _ => False.elim) hHeld (Or.inr ⟨by rfl, rfl⟩) ?_
          simp only [Act.put, jA, jB, jC, jD, jE, jF]
          refine tkH 20 (undef) rfl (by kernel_rfl) (fun _ _ _ => False.elim) hHeld (Or.inr ⟨by rfl, rfl⟩) ?_
          simp only [Act.put, jA, jB, jC, jD, jE, jF]
          refine tkH 21 (.bool true) rfl (by kernel_rfl) (fun _ _ _ => False.elim) hHeld (Or.inl ⟨by rfl, fun W9 hW => by clear hHeld hW; simp only [jA, jB, jC]; go_simp⟩) ?_
          simp only [Act.put, jA, jB, jC, jD, jE, jF]
          refine wpAnyH_done (by kernel_rfl) (NoPanic.normal ?_) _
          go_wp2_with fail
          go_ret
          exact ⟨by rw [HF2.out]; rfl, below_step HB4.out HB9.out⟩
          --ENDa
        | true =>
          by_cases s1 : u.state < 1
          · have HF2 := hid (HF.out (by rw [HFE.out, decide_eq_false (by omega : ¬ 1 ≤ u.state), Bool.and_false]; rfl))
            clear HF HT HFE
            --GENb
            refine wp_region_noPanic ?_
            refine wp_region_held_drew (S := fun W => Hid (Below w4.heap.size w4 W)) (by kernel_rfl) (hid (Below.drew (Below.refl _ _))) (fun hHeld => ?_)
            generalize w4.drew = Wd at *
            refine tkH 0 (.int .i64 (m : Int)) rfl (by kernel_rfl) (fun _ _ _ => False.elim) hHeld (Or.inl ⟨by rfl, fun W9 hW => by clear hHeld hW; simp only [jA, jB, jC]; go_simp⟩) ?_
            simp only [Act.put, jA, jB, jC, jD, jE, jF]
            refine tkH 1 (.bool false) rfl (by kernel_rfl) (fun _ _ _ => False.elim) hHeld (Or.inl ⟨by rfl, fun W9 hW => by clear hHeld hW; simp only [jA, jB, jC]; go_simp⟩) ?_
            simp only [Act.put, jA, jB, jC, jD, jE, jF]
            refine tkH 2 (.bool false) rfl (by kernel_rfl) (fun _ _ _ => False.elim) hHeld (Or.inl ⟨by rfl, fun W9 hW => by clear hHeld hW; simp only [jA, jB, jC]; go_simp⟩) ?_
            simp only [Act.put, jA, jB, jC, jD, jE, jF]
            refine tkH 3 (.agg #[.int .i64 u.id, .int .i64 u.table, .string ⟨u.name.toArray⟩, .slice a1 u.cols.length e1, .bool u.uniq, .int .i64 u.state, .bool u.bad]) rfl (by kernel_rfl) (fun _ _ _ => False.elim) hHeld (Or.inl ⟨by rfl, fun W9 hW => by obtain ⟨q1, q2, q3, q4, q5, q6, q7, q8, q9, q10, q11, q12⟩ := HKp.out _ hW.out; clear hHeld hW; simp only [jA, jB, jC]; go_simp⟩) ?_
            simp only [Act.put, jA, jB, jC, jD, jE, jF]
            refine tkH 4 (.pointer (some ⟨w.heap.size, 2, none⟩)) rfl (by kernel_rfl) (fun _ _ _ => False.elim) hHeld (Or.inl ⟨by rfl, fun W9 hW => by clear hHeld hW; simp only [jA, jB, jC]; go_simp⟩) ?_
            simp only [Act.put, jA, jB, jC, jD, jE, jF]
            refine tkH 5 (.slice (some ⟨tb, toff, none⟩) C.tabs.length c) rfl (by kernel_rfl) (fun _ _ _ => False.elim) hHeld (Or.inl ⟨by rfl, fun W9 hW => by obtain ⟨q1, q2, q3, q4, q5, q6, q7, q8, q9, q10, q11, q12⟩ := HKp.out _ hW.out; clear hHeld hW; simp only [jA, jB, jC]; go_simp⟩) ?_
            simp only [Act.put, jA, jB, jC, jD, jE, jF]
            refine tkH 6 (.int .i64 (m : Int)) rfl (by kernel_rfl) (fun _ _ _ => False.elim) hHeld (Or.inl ⟨by rfl, fun W9 hW => by clear hHeld hW; simp only [jA, jB, jC]; go_simp⟩) ?_
            simp only [Act.put, jA, jB, jC, jD, jE, jF]
            refine tkH 7 (.pointer (some ⟨tb, toff + m * 4, none⟩)) rfl (by kernel_rfl) (fun _ _ _ => False.elim) hHeld (Or.inl ⟨by rfl, fun W9 hW => by clear hHeld hW; simp only [jA, jB, jC]; go_simp⟩) ?_
            simp only [Act.put, jA, jB, jC, jD, jE, jF]
            refine tkH 8 (.agg #[.int .i64 t.id, .string ⟨t.name.toArray⟩, .slice ta1 t.cols.length te1, .slice ta2 t.key.length te2]) rfl (by kernel_rfl) (fun _ _ _ => False.elim) hHeld (Or.inl ⟨by rfl, fun W9 hW => by obtain ⟨q1, q2, q3, q4, q5, q6, q7, q8, q9, q10, q11, q12⟩ := HKp.out _ hW.out; clear hHeld hW; simp only [jA, jB, jC]; go_simp⟩) ?_
            simp only [Act.put, jA, jB, jC, jD, jE, jF]
            refine rdH 9 (by kernel_rfl) rfl fun K hK => ?_
            go_simp
            go_wp2_with (first | (go_at_call 107; refine (CI.out _ hHeld.out).mono ?_; rintro en wb ⟨rfl, hb9⟩; have HB9 := hid (below_step hHeld.out hb9); clear hb9))
            refine hK.out _ _ HB9 (fun hHeld => ?_)
            clear hK K
            try simp only [Act.put, jA, jB, jC, jD, jE, jF]
            refine tkH 10 (.bool false) rfl (by kernel_rfl) (fun _ _ _ => False.elim) hHeld (Or.inl ⟨by rfl, fun W9 hW => by clear hHeld hW; simp only [jA, jB, jC]; go_simp⟩) ?_
            simp only [Act.put, jA, jB, jC, jD, jE, jF]
            refine tkH 11 (.bool false) rfl (by kernel_rfl) (fun _ _ _ => False.elim) hHeld (Or.inl ⟨by rfl, fun W9 hW => by clear hHeld hW; simp only [jA, jB, jC]; go_simp⟩) ?_
            simp only [Act.put, jA, jB, jC, jD, jE, jF]
            refine tkH 12 (.bool false) rfl (by kernel_rfl) (fun _ _ _ => False.elim) hHeld (Or.inl ⟨by rfl, fun W9 hW => by clear hHeld hW; simp only [jA, jB, jC]; go_simp⟩) ?_
            simp only [Act.put, jA, jB, jC, jD, jE, jF]
            refine tkH 13 (.pointer (some ⟨wr.heap.size, 5, none⟩)) rfl (by kernel_rfl) (fun _ _ _ => False.elim) hHeld (Or.inl ⟨by rfl, fun W9 hW => by clear hHeld hW; simp only [jA, jB, jC]; go_simp⟩) ?_
            simp only [Act.put, jA, jB, jC, jD, jE, jF]
            refine tkH 14 (.int .i64 u.state) rfl (by kernel_rfl) (fun _ _ _ => False.elim) hHeld (Or.inl ⟨by rfl, fun W9 hW => by obtain ⟨q1, q2, q3, q4, q5, q6, q7, q8, q9, q10, q11, q12⟩ := HKp.out _ hW.out; clear hHeld hW; simp only [jA, jB, jC]; go_simp⟩) ?_
            simp only [Act.put, jA, jB, jC, jD, jE, jF]
            refine tkH 15 (.bool true) rfl (by kernel_rfl) (fun _ _ _ => False.elim) hHeld (Or.inl ⟨by rfl, fun W9 hW => by clear hHeld hW; simp only [jA, jB, jC]; go_simp⟩) ?_
            simp only [Act.put, jA, jB, jC, jD, jE, jF]
            refine tkH 16 (.bool true) rfl (by kernel_rfl) (fun _ _ _ => False.elim) hHeld (Or.inl ⟨by rfl, fun W9 hW => by clear hHeld hW; simp only [jA, jB, jC]; go_simp⟩) ?_
            simp only [Act.put, jA, jB, jC, jD, jE, jF]
            refine tkH 17 (.bool true) rfl (by kernel_rfl) (fun _ _ _ => False.elim) hHeld (Or.inl ⟨by rfl, fun W9 hW => by clear hHeld hW; simp only [jA, jB, jC]; go_simp⟩) ?_
            simp only [Act.put, jA, jB, jC, jD, jE, jF]
            refine tkH 18 (undef) rfl (by kernel_rfl) (fun _ _ _ => False.elim) hHeld (Or.inr ⟨by rfl, rfl⟩) ?_
            simp only [Act.put, jA, jB, jC, jD, jE, jF]
            refine tkH 19 (undef) rfl (by kernel_rfl) (fun _ _ _ => False.elim) hHeld (Or.inr ⟨by rfl, rfl⟩) ?_
            simp only [Act.put, jA, jB, jC, jD, jE, jF]
            refine tkH 20 (undef) rfl (by kernel_rfl) (fun _ _ _ => False.elim) hHeld (Or.inr ⟨by rfl, rfl⟩) ?_
            simp only [Act.put, jA, jB, jC, jD, jE, jF]
            refine tkH 21 (.bool true) rfl (by kernel_rfl) (fun _ _ _ => False.elim) hHeld (Or.inl ⟨by rfl, fun W9 hW => by clear hHeld hW; simp only [jA, jB, jC]; go_simp⟩) ?_
            simp only [Act.put, jA, jB, jC, jD, jE, jF]
            refine wpAnyH_done (by kernel_rfl) (NoPanic.normal ?_) _
            go_wp2_with fail
            go_ret
            exact ⟨by rw [HF2.out]; rfl, below_step HB4.out HB9.out⟩
            --ENDb
          by_cases s2 : 7 < u.state
          · have HF2 := hid (HF.out (by rw [HFE.out, decide_eq_false (by omega : ¬ u.state ≤ 7), Bool.and_false]))
            clear HF HT HFE
            --GENc
            refine wp_region_noPanic ?_
            refine wp_region_held_drew (S := fun W => Hid (Below w4.heap.size w4 W)) (by kernel_rfl) (hid (Below.drew (Below.refl _ _))) (fun hHeld => ?_)
            generalize w4.drew = Wd at *
            refine tkH 0 (.int .i64 (m : Int)) rfl (by kernel_rfl) (fun _ _ _ => False.elim) hHeld (Or.inl ⟨by rfl, fun W9 hW => by clear hHeld hW; simp only [jA, jB, jC]; go_simp⟩) ?_
            simp only [Act.put, jA, jB, jC, jD, jE, jF]
            refine tkH 1 (.bool false) rfl (by kernel_rfl) (fun _ _ _ => False.elim) hHeld (Or.inl ⟨by rfl, fun W9 hW => by clear hHeld hW; simp only [jA, jB, jC]; go_simp⟩) ?_
            simp only [Act.put, jA, jB, jC, jD, jE, jF]
            refine tkH 2 (.bool false) rfl (by kernel_rfl) (fun _ _ _ => False.elim) hHeld (Or.inl ⟨by rfl, fun W9 hW => by clear hHeld hW; simp only [jA, jB, jC]; go_simp⟩) ?_
            simp only [Act.put, jA, jB, jC, jD, jE, jF]
            refine tkH 3 (.agg #[.int .i64 u.id, .int .i64 u.table, .string ⟨u.name.toArray⟩, .slice a1 u.cols.length e1, .bool u.uniq, .int .i64 u.state, .bool u.bad]) rfl (by kernel_rfl) (fun _ _ _ => False.elim) hHeld (Or.inl ⟨by rfl, fun W9 hW => by obtain ⟨q1, q2, q3, q4, q5, q6, q7, q8, q9, q10, q11, q12⟩ := HKp.out _ hW.out; clear hHeld hW; simp only [jA, jB, jC]; go_simp⟩) ?_
            simp only [Act.put, jA, jB, jC, jD, jE, jF]
            refine tkH 4 (.pointer (some ⟨w.heap.size, 2, none⟩)) rfl (by kernel_rfl) (fun _ _ _ => False.elim) hHeld (Or.inl ⟨by rfl, fun W9 hW => by clear hHeld hW; simp only [jA, jB, jC]; go_simp⟩) ?_
            simp only [Act.put, jA, jB, jC, jD, jE, jF]
            refine tkH 5 (.slice (some ⟨tb, toff, none⟩) C.tabs.length c) rfl (by kernel_rfl) (fun _ _ _ => False.elim) hHeld (Or.inl ⟨by rfl, fun W9 hW => by obtain ⟨q1, q2, q3, q4, q5, q6, q7, q8, q9, q10, q11, q12⟩ := HKp.out _ hW.out; clear hHeld hW; simp only [jA, jB, jC]; go_simp⟩) ?_
            simp only [Act.put, jA, jB, jC, jD, jE, jF]
            refine tkH 6 (.int .i64 (m : Int)) rfl (by kernel_rfl) (fun _ _ _ => False.elim) hHeld (Or.inl ⟨by rfl, fun W9 hW => by clear hHeld hW; simp only [jA, jB, jC]; go_simp⟩) ?_
            simp only [Act.put, jA, jB, jC, jD, jE, jF]
            refine tkH 7 (.pointer (some ⟨tb, toff + m * 4, none⟩)) rfl (by kernel_rfl) (fun _ _ _ => False.elim) hHeld (Or.inl ⟨by rfl, fun W9 hW => by clear hHeld hW; simp only [jA, jB, jC]; go_simp⟩) ?_
            simp only [Act.put, jA, jB, jC, jD, jE, jF]
            refine tkH 8 (.agg #[.int .i64 t.id, .string ⟨t.name.toArray⟩, .slice ta1 t.cols.length te1, .slice ta2 t.key.length te2]) rfl (by kernel_rfl) (fun _ _ _ => False.elim) hHeld (Or.inl ⟨by rfl, fun W9 hW => by obtain ⟨q1, q2, q3, q4, q5, q6, q7, q8, q9, q10, q11, q12⟩ := HKp.out _ hW.out; clear hHeld hW; simp only [jA, jB, jC]; go_simp⟩) ?_
            simp only [Act.put, jA, jB, jC, jD, jE, jF]
            refine rdH 9 (by kernel_rfl) rfl fun K hK => ?_
            go_simp
            go_wp2_with (first | (go_at_call 107; refine (CI.out _ hHeld.out).mono ?_; rintro en wb ⟨rfl, hb9⟩; have HB9 := hid (below_step hHeld.out hb9); clear hb9))
            refine hK.out _ _ HB9 (fun hHeld => ?_)
            clear hK K
            try simp only [Act.put, jA, jB, jC, jD, jE, jF]
            refine tkH 10 (.bool false) rfl (by kernel_rfl) (fun _ _ _ => False.elim) hHeld (Or.inl ⟨by rfl, fun W9 hW => by clear hHeld hW; simp only [jA, jB, jC]; go_simp⟩) ?_
            simp only [Act.put, jA, jB, jC, jD, jE, jF]
            refine tkH 11 (.bool false) rfl (by kernel_rfl) (fun _ _ _ => False.elim) hHeld (Or.inl ⟨by rfl, fun W9 hW => by clear hHeld hW; simp only [jA, jB, jC]; go_simp⟩) ?_
            simp only [Act.put, jA, jB, jC, jD, jE, jF]
            refine tkH 12 (.bool false) rfl (by kernel_rfl) (fun _ _ _ => False.elim) hHeld (Or.inl ⟨by rfl, fun W9 hW => by clear hHeld hW; simp only [jA, jB, jC]; go_simp⟩) ?_
            simp only [Act.put, jA, jB, jC, jD, jE, jF]
            refine tkH 13 (.pointer (some ⟨wr.heap.size, 5, none⟩)) rfl (by kernel_rfl) (fun _ _ _ => False.elim) hHeld (Or.inl ⟨by rfl, fun W9 hW => by clear hHeld hW; simp only [jA, jB, jC]; go_simp⟩) ?_
            simp only [Act.put, jA, jB, jC, jD, jE, jF]
            refine tkH 14 (.int .i64 u.state) rfl (by kernel_rfl) (fun _ _ _ => False.elim) hHeld (Or.inl ⟨by rfl, fun W9 hW => by obtain ⟨q1, q2, q3, q4, q5, q6, q7, q8, q9, q10, q11, q12⟩ := HKp.out _ hW.out; clear hHeld hW; simp only [jA, jB, jC]; go_simp⟩) ?_
            simp only [Act.put, jA, jB, jC, jD, jE, jF]
            refine tkH 15 (.bool false) rfl (by kernel_rfl) (fun _ _ _ => False.elim) hHeld (Or.inl ⟨by rfl, fun W9 hW => by clear hHeld hW; simp only [jA, jB, jC]; go_simp⟩) ?_
            simp only [Act.put, jA, jB, jC, jD, jE, jF]
            refine tkH 16 (.bool false) rfl (by kernel_rfl) (fun _ _ _ => False.elim) hHeld (Or.inl ⟨by rfl, fun W9 hW => by clear hHeld hW; simp only [jA, jB, jC]; go_simp⟩) ?_
            simp only [Act.put, jA, jB, jC, jD, jE, jF]
            refine tkH 17 (.bool false) rfl (by kernel_rfl) (fun _ _ _ => False.elim) hHeld (Or.inl ⟨by rfl, fun W9 hW => by clear hHeld hW; simp only [jA, jB, jC]; go_simp⟩) ?_
            simp only [Act.put, jA, jB, jC, jD, jE, jF]
            refine tkH 18 (.pointer (some ⟨wr.heap.size, 5, none⟩)) rfl (by kernel_rfl) (fun _ _ _ => False.elim) hHeld (Or.inl ⟨by rfl, fun W9 hW => by clear hHeld hW; simp only [jA, jB, jC]; go_simp⟩) ?_
            simp only [Act.put, jA, jB, jC, jD, jE, jF]
            refine tkH 19 (.int .i64 u.state) rfl (by kernel_rfl) (fun _ _ _ => False.elim) hHeld (Or.inl ⟨by rfl, fun W9 hW => by obtain ⟨q1, q2, q3, q4, q5, q6, q7, q8, q9, q10, q11, q12⟩ := HKp.out _ hW.out; clear hHeld hW; simp only [jA, jB, jC]; go_simp⟩) ?_
            simp only [Act.put, jA, jB, jC, jD, jE, jF]
            refine tkH 20 (.bool true) rfl (by kernel_rfl) (fun _ _ _ => False.elim) hHeld (Or.inl ⟨by rfl, fun W9 hW => by clear hHeld hW; simp only [jA, jB, jC]; go_simp⟩) ?_
            simp only [Act.put, jA, jB, jC, jD, jE, jF]
            refine tkH 21 (.bool true) rfl (by kernel_rfl) (fun _ _ _ => False.elim) hHeld (Or.inl ⟨by rfl, fun W9 hW => by clear hHeld hW; simp only [jA, jB, jC]; go_simp⟩) ?_
            simp only [Act.put, jA, jB, jC, jD, jE, jF]
            refine wpAnyH_done (by kernel_rfl) (NoPanic.normal ?_) _
            go_wp2_with fail
            go_ret
            exact ⟨by rw [HF2.out]; rfl, below_step HB4.out HB9.out⟩
            --ENDc
          have HT2 : Hid ((C.idxs.take (k + 1)).all (idxF C) = true) := hid (by rw [HT.out, HFE.out, decide_eq_true (by omega : 1 ≤ u.state), decide_eq_true (by omega : u.state ≤ 7)]; rfl)
          clear HF HT HFE
          --GENd
          refine wp_region_noPanic ?_
          refine wp_region_held_drew (S := fun W => Hid (Below w4.heap.size w4 W)) (by kernel_rfl) (hid (Below.drew (Below.refl _ _))) (fun hHeld => ?_)
          generalize w4.drew = Wd at *
          refine tkH 0 (.int .i64 (m : Int)) rfl (by kernel_rfl) (fun _ _ _ => False.elim) hHeld (Or.inl ⟨by rfl, fun W9 hW => by clear hHeld hW; simp only [jA, jB, jC]; go_simp⟩) ?_
          simp only [Act.put, jA, jB, jC, jD, jE, jF]
          refine tkH 1 (.bool false) rfl (by kernel_rfl) (fun _ _ _ => False.elim) hHeld (Or.inl ⟨by rfl, fun W9 hW => by clear hHeld hW; simp only [jA, jB, jC]; go_simp⟩) ?_
          simp only [Act.put, jA, jB, jC, jD, jE, jF]
          refine tkH 2 (.bool false) rfl (by kernel_rfl) (fun _ _ _ => False.elim) hHeld (Or.inl ⟨by rfl, fun W9 hW => by clear hHeld hW; simp only [jA, jB, jC]; go_simp⟩) ?_
          simp only [Act.put, jA, jB, jC, jD, jE, jF]
          refine tkH 3 (.agg #[.int .i64 u.id, .int .i64 u.table, .string ⟨u.name.toArray⟩, .slice a1 u.cols.length e1, .bool u.uniq, .int .i64 u.state, .bool u.bad]) rfl (by kernel_rfl) (fun _ _ _ => False.elim) hHeld (Or.inl ⟨by rfl, fun W9 hW => by obtain ⟨q1, q2, q3, q4, q5, q6, q7, q8, q9, q10, q11, q12⟩ := HKp.out _ hW.out; clear hHeld hW; simp only [jA, jB, jC]; go_simp⟩) ?_
          simp only [Act.put, jA, jB, jC, jD, jE, jF]
          refine tkH 4 (.pointer (some ⟨w.heap.size, 2, none⟩)) rfl (by kernel_rfl) (fun _ _ _ => False.elim) hHeld (Or.inl ⟨by rfl, fun W9 hW => by clear hHeld hW; simp only [jA, jB, jC]; go_simp⟩) ?_
          simp only [Act.put, jA, jB, jC, jD, jE, jF]
          refine tkH 5 (.slice (some ⟨tb, toff, none⟩) C.tabs.length c) rfl (by kernel_rfl) (fun _ _ _ => False.elim) hHeld (Or.inl ⟨by rfl, fun W9 hW => by obtain ⟨q1, q2, q3, q4, q5, q6, q7, q8, q9, q10, q11, q12⟩ := HKp.out _ hW.out; clear hHeld hW; simp only [jA, jB, jC]; go_simp⟩) ?_
          simp only [Act.put, jA, jB, jC, jD, jE, jF]
          refine tkH 6 (.int .i64 (m : Int)) rfl (by kernel_rfl) (fun _ _ _ => False.elim) hHeld (Or.inl ⟨by rfl, fun W9 hW => by clear hHeld hW; simp only [jA, jB, jC]; go_simp⟩) ?_
          simp only [Act.put, jA, jB, jC, jD, jE, jF]
          refine tkH 7 (.pointer (some ⟨tb, toff + m * 4, none⟩)) rfl (by kernel_rfl) (fun _ _ _ => False.elim) hHeld (Or.inl ⟨by rfl, fun W9 hW => by clear hHeld hW; simp only [jA, jB, jC]; go_simp⟩) ?_
          simp only [Act.put, jA, jB, jC, jD, jE, jF]
          refine tkH 8 (.agg #[.int .i64 t.id, .string ⟨t.name.toArray⟩, .slice ta1 t.cols.length te1, .slice ta2 t.key.length te2]) rfl (by kernel_rfl) (fun _ _ _ => False.elim) hHeld (Or.inl ⟨by rfl, fun W9 hW => by obtain ⟨q1, q2, q3, q4, q5, q6, q7, q8, q9, q10, q11, q12⟩ := HKp.out _ hW.out; clear hHeld hW; simp only [jA, jB, jC]; go_simp⟩) ?_
          simp only [Act.put, jA, jB, jC, jD, jE, jF]
          refine rdH 9 (by kernel_rfl) rfl fun K hK => ?_
          go_simp
          go_wp2_with (first | (go_at_call 107; refine (CI.out _ hHeld.out).mono ?_; rintro en wb ⟨rfl, hb9⟩; have HB9 := hid (below_step hHeld.out hb9); clear hb9))
          refine hK.out _ _ HB9 (fun hHeld => ?_)
          clear hK K
          try simp only [Act.put, jA, jB, jC, jD, jE, jF]
          refine tkH 10 (.bool false) rfl (by kernel_rfl) (fun _ _ _ => False.elim) hHeld (Or.inl ⟨by rfl, fun W9 hW => by clear hHeld hW; simp only [jA, jB, jC]; go_simp⟩) ?_
          simp only [Act.put, jA, jB, jC, jD, jE, jF]
          refine tkH 11 (.bool false) rfl (by kernel_rfl) (fun _ _ _ => False.elim) hHeld (Or.inl ⟨by rfl, fun W9 hW => by clear hHeld hW; simp only [jA, jB, jC]; go_simp⟩) ?_
          simp only [Act.put, jA, jB, jC, jD, jE, jF]
          refine tkH 12 (.bool false) rfl (by kernel_rfl) (fun _ _ _ => False.elim) hHeld (Or.inl ⟨by rfl, fun W9 hW => by clear hHeld hW; simp only [jA, jB, jC]; go_simp⟩) ?_
          simp only [Act.put, jA, jB, jC, jD, jE, jF]
          refine tkH 13 (.pointer (some ⟨wr.heap.size, 5, none⟩)) rfl (by kernel_rfl) (fun _ _ _ => False.elim) hHeld (Or.inl ⟨by rfl, fun W9 hW => by clear hHeld hW; simp only [jA, jB, jC]; go_simp⟩) ?_
          simp only [Act.put, jA, jB, jC, jD, jE, jF]
          refine tkH 14 (.int .i64 u.state) rfl (by kernel_rfl) (fun _ _ _ => False.elim) hHeld (Or.inl ⟨by rfl, fun W9 hW => by obtain ⟨q1, q2, q3, q4, q5, q6, q7, q8, q9, q10, q11, q12⟩ := HKp.out _ hW.out; clear hHeld hW; simp only [jA, jB, jC]; go_simp⟩) ?_
          simp only [Act.put, jA, jB, jC, jD, jE, jF]
          refine tkH 15 (.bool false) rfl (by kernel_rfl) (fun _ _ _ => False.elim) hHeld (Or.inl ⟨by rfl, fun W9 hW => by clear hHeld hW; simp only [jA, jB, jC]; go_simp⟩) ?_
          simp only [Act.put, jA, jB, jC, jD, jE, jF]
          refine tkH 16 (.bool false) rfl (by kernel_rfl) (fun _ _ _ => False.elim) hHeld (Or.inl ⟨by rfl, fun W9 hW => by clear hHeld hW; simp only [jA, jB, jC]; go_simp⟩) ?_
          simp only [Act.put, jA, jB, jC, jD, jE, jF]
          refine tkH 17 (.bool false) rfl (by kernel_rfl) (fun _ _ _ => False.elim) hHeld (Or.inl ⟨by rfl, fun W9 hW => by clear hHeld hW; simp only [jA, jB, jC]; go_simp⟩) ?_
          simp only [Act.put, jA, jB, jC, jD, jE, jF]
          refine tkH 18 (.pointer (some ⟨wr.heap.size, 5, none⟩)) rfl (by kernel_rfl) (fun _ _ _ => False.elim) hHeld (Or.inl ⟨by rfl, fun W9 hW => by clear hHeld hW; simp only [jA, jB, jC]; go_simp⟩) ?_
          simp only [Act.put, jA, jB, jC, jD, jE, jF]
          refine tkH 19 (.int .i64 u.state) rfl (by kernel_rfl) (fun _ _ _ => False.elim) hHeld (Or.inl ⟨by rfl, fun W9 hW => by obtain ⟨q1, q2, q3, q4, q5, q6, q7, q8, q9, q10, q11, q12⟩ := HKp.out _ hW.out; clear hHeld hW; simp only [jA, jB, jC]; go_simp⟩) ?_
          simp only [Act.put, jA, jB, jC, jD, jE, jF]
          refine tkH 20 (.bool false) rfl (by kernel_rfl) (fun _ _ _ => False.elim) hHeld (Or.inl ⟨by rfl, fun W9 hW => by clear hHeld hW; simp only [jA, jB, jC]; go_simp⟩) ?_
          simp only [Act.put, jA, jB, jC, jD, jE, jF]
          refine tkH 21 (.bool false) rfl (by kernel_rfl) (fun _ _ _ => False.elim) hHeld (Or.inl ⟨by rfl, fun W9 hW => by clear hHeld hW; simp only [jA, jB, jC]; go_simp⟩) ?_
          simp only [Act.put, jA, jB, jC, jD, jE, jF]
          refine wpAnyH_done (by kernel_rfl) (NoPanic.normal ?_) _
          go_wp2_with fail
          go_roundw
          case rel => exact ⟨k + 1, by omega, by go_num, below_step HW4.out HB9.out, HT2.out⟩
          case measure => simp [intOf]; omega
          --ENDd
    · obtain rfl : k = C.idxs.length := by omega
      rw [List.take_length] at HA
      go_wp2_with fail
      go_ret
      exact ⟨by rw [HA.out]; rfl, HB.out⟩
end Go.Proofs.Ytafcbelkhhjcoaa
