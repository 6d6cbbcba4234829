/-
  LAYER 12, THE DOCUMENT's: Step.
-/
import Derived.Test.YtkpeidhddicdmaaSl
set_option linter.unusedVariables false
set_option linter.unusedSimpArgs false
set_option maxRecDepth 100000
namespace Go.Proofs.Ytkpeidhddicdmaa
open Go.RowKit Go.Deep

def stepBad (x : Idx) (fr st : Int) (bad : Bool) : Bool := (x.state != fr) || (!(bad && (fr == 3) && (st == 6)) && ((st != nextI x.state) || (st == fr)))
def stepM (C : Cat) (id fr st : Int) (bad : Bool) : Cat × Int :=
  match C.idxs.find? (fun t => decide (t.id = id)) with
  | none => (C, 5)
  | some x => if stepBad x fr st bad = true then (C, 7) else (setM C id st (bad || x.bad), 0)

set_option maxHeartbeats 8000000 in
theorem rStep_any {N : Nat → Prop} {w : World} {cs : List Value} {C : Cat} (h : CatN N w cs C) (hN : ∀ k, N k → k < w.heap.size) (hS : C.S) (hv : -9223372036854775808 ≤ C.ver ∧ C.ver < 9223372036854775807) (id fr st : Int) (bad : Bool) :
    Calls Try.prog 30 #[.agg cs.toArray, .int .i64 id, .int .i64 fr, .int .i64 st, .bool bad] w (ChP N w (stepM C id fr st bad)) := by
  have HH := hid h
  obtain ⟨x, y, hcs, hx, hy, -, -⟩ := h
  obtain ⟨ao, c, rfl, h1, h2, -⟩ := tb_cells hx
  obtain ⟨ko, d, rfl, g1, g2, gc⟩ := ix_cells hy
  subst hcs
  have hkm : C.idxs.length ≤ 9223372036854775807 := by unfold maxLen at g2; omega
  have HC := hid gc
  have HNK := hid hN
  have HS := hid hS
  have HV := hid hv
  clear hx hy gc hN hS hv
  go_enter Try.func30, Try.ntmps30
  go_upto_region 1 with fail
  have hb := (Below.refl w.heap.size w).alloc (Nat.le_refl _) (.cells #[.int .i64 C.ver, .int .i64 C.nxt, .slice ao C.tabs.length c, .slice ko C.idxs.length d] 25)
  have hz := heap_alloc_new w (.cells #[.int .i64 C.ver, .int .i64 C.nxt, .slice ao C.tabs.length c, .slice ko C.idxs.length d] 25)
  have hsz : (w.alloc (.cells #[.int .i64 C.ver, .int .i64 C.nxt, .slice ao C.tabs.length c, .slice ko C.idxs.length d] 25)).heap.size = w.heap.size + 1 := by simp
  generalize w.alloc (.cells #[.int .i64 C.ver, .int .i64 C.nxt, .slice ao C.tabs.length c, .slice ko C.idxs.length d] 25) = w1 at *
  have hz2 := heap_alloc_new w1 (.cells #[.int .i64 0, .int .i64 0, .slice none 0 0, .slice none 0 0] 25)
  have HB := hid (hb.alloc hb.size (.cells #[.int .i64 0, .int .i64 0, .slice none 0 0, .slice none 0 0] 25))
  have HZ := hid (((Below.refl _ w1).alloc (Nat.le_refl _) (.cells #[.int .i64 0, .int .i64 0, .slice none 0 0, .slice none 0 0] 25)).block _ (lt_of_block hz) |>.trans hz)
  have hsz2 : (w1.alloc (.cells #[.int .i64 0, .int .i64 0, .slice none 0 0, .slice none 0 0] 25)).heap.size = w.heap.size + 2 := by simp [hsz]
  rw [hsz] at hz2
  generalize w1.alloc (.cells #[.int .i64 0, .int .i64 0, .slice none 0 0, .slice none 0 0] 25) = w2 at *
  have HZ2 := hid hz2
  have HSZ := hid hsz2
  clear hz2 hb hz hsz hsz2
  go_wp2_with fail
  go_loopw [12] (fun j wr => ∃ k : Nat, k ≤ C.idxs.length ∧ j = .int .i64 (k : Int) ∧ Below w2.heap.size w2 wr ∧ (C.idxs.take k).any (fun t => decide (t.id = id)) = false)
    (fun j _ => C.idxs.length - (intOf j).toNat)
  case atStart => exact ⟨0, by omega, rfl, Below.refl _ _, by simp⟩
  case round =>
    obtain ⟨k, hk, rfl, hbr, ha⟩ := hrel
    have HBR := hid hbr
    have HBA := hid (below_step HB.out hbr)
    have HA := hid ha
    have HZB := hid ((hbr.block _ (lt_of_block HZ.out)).trans HZ.out)
    have HR0 := hid ((hbr.block _ (lt_of_block HZ2.out)).trans HZ2.out)
    clear hbr ha
    have z3 := cell_in HZB.out 3 _ rfl
    by_cases hlt : k < C.idxs.length
    · obtain ⟨u, hu⟩ : ∃ u, C.idxs[k]? = some u := ⟨_, List.getElem?_eq_getElem hlt⟩
      obtain ⟨b, off, a1, e1, rfl, ht, c0, c1, c2, c3, c4, c5, c6⟩ := HC.out k u hu
      have hki : (k : Int) < (C.idxs.length : Int) := by omega
      have k0 := (HBA.out.cell (block_cell c0)).trans c0
      have k1 := (HBA.out.cell (block_cell c1)).trans c1
      have k2 := (HBA.out.cell (block_cell c2)).trans c2
      have k3 := (HBA.out.cell (block_cell c3)).trans c3
      have k4 := (HBA.out.cell (block_cell c4)).trans c4
      have k5 := (HBA.out.cell (block_cell c5)).trans c5
      have k6 := (HBA.out.cell (block_cell c6)).trans c6
      clear c0 c1 c2 c3 c4 c5 c6 ht
      have HU := hid (any_take (p := fun t => decide (t.id = id)) hu HA.out)
      have HF := hid (find_at (p := fun t => decide (t.id = id)) hu HA.out)
      clear hu
      go_upto_region 5 with fail
      have hb5 := (Below.refl wr.heap.size wr).alloc (Nat.le_refl _) (.cells #[.int .i64 u.id, .int .i64 u.table, .string ⟨u.name.toArray⟩, .slice a1 u.cols.length e1, .bool u.uniq, .int .i64 u.state, .bool u.bad] 37)
      have hz5 := heap_alloc_new wr (.cells #[.int .i64 u.id, .int .i64 u.table, .string ⟨u.name.toArray⟩, .slice a1 u.cols.length e1, .bool u.uniq, .int .i64 u.state, .bool u.bad] 37)
      generalize wr.alloc (.cells #[.int .i64 u.id, .int .i64 u.table, .string ⟨u.name.toArray⟩, .slice a1 u.cols.length e1, .bool u.uniq, .int .i64 u.state, .bool u.bad] 37) = w5 at *
      have HB5 := hid hb5
      have HZ5 := hid hz5
      have HBA5 := hid (below_step HBA.out hb5)
      have HBR5 := hid (below_step HBR.out hb5)
      clear hb5 hz5 k0 k1 k2 k3 k4 k5 k6 z3
      have y0 := cell_in HZ5.out 0 _ rfl
      cases hq : (u.id != id) with
      | true =>
        have HQ := hid hq
        go_wp2_with fail
        go_roundw
        case rel => exact ⟨k + 1, by omega, by go_num, HBR5.out, by rw [HU.out]; have := HQ.out; simpa using this⟩
        case measure => simp [intOf]; omega
      | false =>
        have HFF := hid (HF.out (by simpa using hq))
        go_upto_region 6 with fail
        have y1 := cell_in HZ5.out 1 _ rfl
        have y2 := cell_in HZ5.out 2 _ rfl
        have y3 := cell_in HZ5.out 3 _ rfl
        have y4 := cell_in HZ5.out 4 _ rfl
        have y5 := cell_in HZ5.out 5 _ rfl
        have y6 := cell_in HZ5.out 6 _ rfl
        have CNX := fun W => rNext_any W u.id u.table u.state ⟨u.name.toArray⟩ (.slice a1 u.cols.length e1) u.uniq u.bad rfl
        go_cut [56] from 30 to 56 (fun s wx => ∃ q : Bool, s = .bool q ∧ Below w5.heap.size w5 wx ∧ Hid (stepBad u fr st bad = q))
        case first =>
          cases h1 : (u.state != fr) with
          | true =>
            go_wp2_with fail
            go_meet
            exact ⟨_, rfl, Below.refl _ _, hid (by unfold stepBad; rw [h1]; rfl)⟩
          | false =>
            generalize hnx : nextI u.state = nx at *
            cases bad with
            | false =>
              cases h5 : (st != nx) with
              | true =>
                go_wp2_with (first | (go_at_call 24; refine (CNX _).mono ?_; rintro en w6 ⟨rfl, hb6⟩; have HB6 := hid hb6; clear hb6))
                go_meet
                exact ⟨_, rfl, HB6.out, hid (by unfold stepBad; rw [h1, hnx, h5]; rfl)⟩
              | false =>
                cases h6 : (st == fr) with
                | true =>
                  go_wp2_with (first | (go_at_call 24; refine (CNX _).mono ?_; rintro en w6 ⟨rfl, hb6⟩; have HB6 := hid hb6; clear hb6))
                  go_meet
                  exact ⟨_, rfl, HB6.out, hid (by unfold stepBad; rw [h1, hnx, h5, h6]; rfl)⟩
                | false =>
                  go_wp2_with (first | (go_at_call 24; refine (CNX _).mono ?_; rintro en w6 ⟨rfl, hb6⟩; have HB6 := hid hb6; clear hb6))
                  go_meet
                  exact ⟨_, rfl, HB6.out, hid (by unfold stepBad; rw [h1, hnx, h5, h6]; rfl)⟩
            | true =>
              cases h3 : (fr == 3) with
              | false =>
                cases h5 : (st != nx) with
                | true =>
                  go_wp2_with (first | (go_at_call 24; refine (CNX _).mono ?_; rintro en w6 ⟨rfl, hb6⟩; have HB6 := hid hb6; clear hb6))
                  go_meet
                  exact ⟨_, rfl, HB6.out, hid (by unfold stepBad; rw [h1, hnx, h5, h3]; rfl)⟩
                | false =>
                  cases h6 : (st == fr) with
                  | true =>
                    go_wp2_with (first | (go_at_call 24; refine (CNX _).mono ?_; rintro en w6 ⟨rfl, hb6⟩; have HB6 := hid hb6; clear hb6))
                    go_meet
                    exact ⟨_, rfl, HB6.out, hid (by unfold stepBad; rw [h1, hnx, h5, h6, h3]; rfl)⟩
                  | false =>
                    go_wp2_with (first | (go_at_call 24; refine (CNX _).mono ?_; rintro en w6 ⟨rfl, hb6⟩; have HB6 := hid hb6; clear hb6))
                    go_meet
                    exact ⟨_, rfl, HB6.out, hid (by unfold stepBad; rw [h1, hnx, h5, h6, h3]; rfl)⟩
              | true =>
                cases h4 : (st == 6) with
                | true =>
                  go_wp2_with fail
                  go_meet
                  exact ⟨_, rfl, Below.refl _ _, hid (by unfold stepBad; rw [h1, h3, h4]; rfl)⟩
                | false =>
                  cases h5 : (st != nx) with
                  | true =>
                    go_wp2_with (first | (go_at_call 24; refine (CNX _).mono ?_; rintro en w6 ⟨rfl, hb6⟩; have HB6 := hid hb6; clear hb6))
                    go_meet
                    exact ⟨_, rfl, HB6.out, hid (by unfold stepBad; rw [h1, hnx, h5, h3, h4]; rfl)⟩
                  | false =>
                    cases h6 : (st == fr) with
                    | true =>
                      go_wp2_with (first | (go_at_call 24; refine (CNX _).mono ?_; rintro en w6 ⟨rfl, hb6⟩; have HB6 := hid hb6; clear hb6))
                      go_meet
                      exact ⟨_, rfl, HB6.out, hid (by unfold stepBad; rw [h1, hnx, h5, h6, h3, h4]; rfl)⟩
                    | false =>
                      go_wp2_with (first | (go_at_call 24; refine (CNX _).mono ?_; rintro en w6 ⟨rfl, hb6⟩; have HB6 := hid hb6; clear hb6))
                      go_meet
                      exact ⟨_, rfl, HB6.out, hid (by unfold stepBad; rw [h1, hnx, h5, h6, h3, h4]; rfl)⟩
        case rest =>
        obtain ⟨q, rfl, hbx, hqq⟩ := hcut
        have HBX := hid hbx
        have HBA6 := hid (below_step HBA5.out hbx)
        have HBR6 := hid (below_step HBR5.out hbx)
        have HZ6 := hid ((hbx.block _ (lt_of_block HZ5.out)).trans HZ5.out)
        have HZC := hid ((HBR6.out.block _ (lt_of_block HZ.out)).trans HZ.out)
        have HRC := hid ((HBR6.out.block _ (lt_of_block HZ2.out)).trans HZ2.out)
        clear hbx CNX y0 y1 y2 y3 y4 y5 y6
        have r0 := cell_in HRC.out 0 _ rfl
        have r1 := cell_in HRC.out 1 _ rfl
        have r2 := cell_in HRC.out 2 _ rfl
        have r3 := cell_in HRC.out 3 _ rfl
        have r0f := free_in HRC.out 0
        have r1f := free_in HRC.out 1
        have r2f := free_in HRC.out 2
        have r3f := free_in HRC.out 3
        have z0 := cell_in HZC.out 0 _ rfl
        have z1 := cell_in HZC.out 1 _ rfl
        have z2 := cell_in HZC.out 2 _ rfl
        have z3 := cell_in HZC.out 3 _ rfl
        have y6 := cell_in HZ6.out 6 _ rfl
        cases q with
        | true =>
          have HD : Hid (stepM C id fr st bad = (C, 7)) := hid (by unfold stepM; rw [HFF.out]; show (if stepBad u fr st bad = true then _ else _) = _; rw [if_pos hqq.out])
          clear hqq
          go_wp2_with fail
          obtain ⟨p1, p2⟩ := put4 HRC.out (.int .i64 C.ver) (.int .i64 C.nxt) (.slice ao C.tabs.length c) (.slice (some ⟨b, off, none⟩) C.idxs.length d)
          generalize (((wc.setCell ⟨w.heap.size + 1, 0, none⟩ (.int .i64 C.ver)).setCell ⟨w.heap.size + 1, 1, none⟩ (.int .i64 C.nxt)).setCell ⟨w.heap.size + 1, 2, none⟩ (.slice ao C.tabs.length c)).setCell ⟨w.heap.size + 1, 3, none⟩ (.slice (some ⟨b, off, none⟩) C.idxs.length d) = s4 at *
          (try simp only [Exit.inBlock, Exit.then]); refine bodyPost_ret (results_cell2 rfl _ _ (w.heap.size + 1) 25 _ (0, 0) _ rfl p1 Try.underlying25 rfl (by kernel_rfl)) rfl ?_
          have hb9 : Below w.heap.size w s4 := HBA6.out.trans (p2.below (by have := HBA6.out.size; omega) (fun k e => by have e8 : k = w.heap.size + 1 := e; omega))
          rw [HD.out]
          exact ⟨_, rfl, hb9, (HH.out.old hb9).mono (fun k e => Or.inl e)⟩
        | false =>
          have HD : Hid (stepM C id fr st bad = (setM C id st (bad || u.bad), 0)) := hid (by unfold stepM; rw [HFF.out]; show (if stepBad u fr st bad = true then _ else _) = _; rw [if_neg (by rw [hqq.out]; decide)])
          clear hqq
          cases bad with
          | true =>
            have HD9 : Hid (stepM C id fr st true = (setM C id st true, 0)) := hid (by rw [HD.out]; rfl)
            have CS := hid (rSet_any (HH.out.old HBA6.out) (fun k hk => Nat.lt_of_lt_of_le (HNK.out k hk) HBA6.out.size) HS.out HV.out id st true)
            clear HD
            generalize setM C id st true = m at HD9 CS
            go_wp2_with (first | (go_at_call 62; refine CS.out.mono ?_; rintro en w7 ⟨vs, rfl, hb7, hc7⟩; obtain ⟨sa, sc, ka, kc, rfl⟩ := cat_form hc7; have HB7 := hid hb7; have HC7 := hid hc7; have HR7 := hid ((HB7.out.block _ (lt_of_block HRC.out)).trans HRC.out); clear r0 r1 r2 r3 r0f r1f r2f r3f hb7 hc7; have r0 := cell_in HR7.out 0 _ rfl; have r1 := cell_in HR7.out 1 _ rfl; have r2 := cell_in HR7.out 2 _ rfl; have r3 := cell_in HR7.out 3 _ rfl; have r0f := free_in HR7.out 0; have r1f := free_in HR7.out 1; have r2f := free_in HR7.out 2; have r3f := free_in HR7.out 3))
            obtain ⟨p1, p2⟩ := put4 HR7.out (.int .i64 m.ver) (.int .i64 m.nxt) (.slice sa m.tabs.length sc) (.slice ka m.idxs.length kc)
            generalize (((w7.setCell ⟨w.heap.size + 1, 0, none⟩ (.int .i64 m.ver)).setCell ⟨w.heap.size + 1, 1, none⟩ (.int .i64 m.nxt)).setCell ⟨w.heap.size + 1, 2, none⟩ (.slice sa m.tabs.length sc)).setCell ⟨w.heap.size + 1, 3, none⟩ (.slice ka m.idxs.length kc) = s4 at *
            (try simp only [Exit.inBlock, Exit.then]); refine bodyPost_ret (results_cell2 rfl _ _ (w.heap.size + 1) 25 _ (0, 0) _ rfl p1 Try.underlying25 rfl (by kernel_rfl)) rfl ?_
            rw [HD9.out]
            have hsz := HSZ.out
            have hs24 := HBR6.out.size
            have hba := HBA6.out.size
            have hsk := p2.size
            have hb9 : Below w.heap.size w s4 := (below_step HBA6.out HB7.out).trans (p2.below (by have := HB7.out.size; omega) (fun k e => by have e8 : k = w.heap.size + 1 := e; omega))
            have hc9 : CatN (Old N w s4) s4 [.int .i64 m.ver, .int .i64 m.nxt, .slice sa m.tabs.length sc, .slice ka m.idxs.length kc] m :=
              (HC7.out.keep p2 (fun k e e9 => by have e8 : k = w.heap.size + 1 := e9; have := e.1; omega)).mono (fun k e => Or.inr ⟨by have := e.1; omega, by have := e.2; omega⟩)
            exact ⟨_, rfl, hb9, hc9⟩
          | false =>
            have HD9 : Hid (stepM C id fr st false = (setM C id st u.bad, 0)) := hid (by rw [HD.out]; rfl)
            have CS := hid (rSet_any (HH.out.old HBA6.out) (fun k hk => Nat.lt_of_lt_of_le (HNK.out k hk) HBA6.out.size) HS.out HV.out id st u.bad)
            clear HD
            generalize setM C id st u.bad = m at HD9 CS
            go_wp2_with (first | (go_at_call 62; refine CS.out.mono ?_; rintro en w7 ⟨vs, rfl, hb7, hc7⟩; obtain ⟨sa, sc, ka, kc, rfl⟩ := cat_form hc7; have HB7 := hid hb7; have HC7 := hid hc7; have HR7 := hid ((HB7.out.block _ (lt_of_block HRC.out)).trans HRC.out); clear r0 r1 r2 r3 r0f r1f r2f r3f hb7 hc7; have r0 := cell_in HR7.out 0 _ rfl; have r1 := cell_in HR7.out 1 _ rfl; have r2 := cell_in HR7.out 2 _ rfl; have r3 := cell_in HR7.out 3 _ rfl; have r0f := free_in HR7.out 0; have r1f := free_in HR7.out 1; have r2f := free_in HR7.out 2; have r3f := free_in HR7.out 3))
            obtain ⟨p1, p2⟩ := put4 HR7.out (.int .i64 m.ver) (.int .i64 m.nxt) (.slice sa m.tabs.length sc) (.slice ka m.idxs.length kc)
            generalize (((w7.setCell ⟨w.heap.size + 1, 0, none⟩ (.int .i64 m.ver)).setCell ⟨w.heap.size + 1, 1, none⟩ (.int .i64 m.nxt)).setCell ⟨w.heap.size + 1, 2, none⟩ (.slice sa m.tabs.length sc)).setCell ⟨w.heap.size + 1, 3, none⟩ (.slice ka m.idxs.length kc) = s4 at *
            (try simp only [Exit.inBlock, Exit.then]); refine bodyPost_ret (results_cell2 rfl _ _ (w.heap.size + 1) 25 _ (0, 0) _ rfl p1 Try.underlying25 rfl (by kernel_rfl)) rfl ?_
            rw [HD9.out]
            have hsz := HSZ.out
            have hs24 := HBR6.out.size
            have hba := HBA6.out.size
            have hsk := p2.size
            have hb9 : Below w.heap.size w s4 := (below_step HBA6.out HB7.out).trans (p2.below (by have := HB7.out.size; omega) (fun k e => by have e8 : k = w.heap.size + 1 := e; omega))
            have hc9 : CatN (Old N w s4) s4 [.int .i64 m.ver, .int .i64 m.nxt, .slice sa m.tabs.length sc, .slice ka m.idxs.length kc] m :=
              (HC7.out.keep p2 (fun k e e9 => by have e8 : k = w.heap.size + 1 := e9; have := e.1; omega)).mono (fun k e => Or.inr ⟨by have := e.1; omega, by have := e.2; omega⟩)
            exact ⟨_, rfl, hb9, hc9⟩
    · obtain rfl : k = C.idxs.length := by omega
      rw [List.take_length] at HA
      have hki : ¬ (C.idxs.length : Int) < (C.idxs.length : Int) := by omega
      have HD : Hid (stepM C id fr st bad = (C, 5)) := hid (by unfold stepM; rw [find_none HA.out])
      have HRC := HR0
      have z0 := cell_in HZB.out 0 _ rfl
      have z1 := cell_in HZB.out 1 _ rfl
      have z2 := cell_in HZB.out 2 _ rfl
      have r0 := cell_in HR0.out 0 _ rfl
      have r1 := cell_in HR0.out 1 _ rfl
      have r2 := cell_in HR0.out 2 _ rfl
      have r3 := cell_in HR0.out 3 _ rfl
      have r0f := free_in HR0.out 0
      have r1f := free_in HR0.out 1
      have r2f := free_in HR0.out 2
      have r3f := free_in HR0.out 3
      go_wp2_with fail
      obtain ⟨p1, p2⟩ := put4 HRC.out (.int .i64 C.ver) (.int .i64 C.nxt) (.slice ao C.tabs.length c) (.slice ko C.idxs.length d)
      generalize (((wr.setCell ⟨w.heap.size + 1, 0, none⟩ (.int .i64 C.ver)).setCell ⟨w.heap.size + 1, 1, none⟩ (.int .i64 C.nxt)).setCell ⟨w.heap.size + 1, 2, none⟩ (.slice ao C.tabs.length c)).setCell ⟨w.heap.size + 1, 3, none⟩ (.slice ko C.idxs.length d) = s4 at *
      (try simp only [Exit.inBlock, Exit.then]); refine bodyPost_ret (results_cell2 rfl _ _ (w.heap.size + 1) 25 _ (0, 0) _ rfl p1 Try.underlying25 rfl (by kernel_rfl)) rfl ?_
      have hb9 : Below w.heap.size w s4 := HBA.out.trans (p2.below (by have := HBA.out.size; omega) (fun k e => by have e8 : k = w.heap.size + 1 := e; omega))
      rw [HD.out]
      exact ⟨_, rfl, hb9, (HH.out.old hb9).mono (fun k e => Or.inl e)⟩
end Go.Proofs.Ytkpeidhddicdmaa
