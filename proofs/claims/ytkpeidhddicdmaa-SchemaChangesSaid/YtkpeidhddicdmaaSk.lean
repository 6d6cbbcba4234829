/-
  LAYER 12, THE DOCUMENT's: set.
-/
import Derived.Test.YtkpeidhddicdmaaSj
set_option linter.unusedVariables false
set_option linter.unusedSimpArgs false
set_option maxRecDepth 100000
namespace Go.Proofs.Ytkpeidhddicdmaa
open Go.RowKit Go.Deep

def setI (id st : Int) (bad : Bool) (x : Idx) : Idx := if x.id = id then { x with state := st, bad := bad } else x
def setL (id st : Int) (bad : Bool) (l : List Idx) : List Idx := (l.map (setI id st bad)).filter fun x => decide (¬ x.state = 0)
def setM (C : Cat) (id st : Int) (bad : Bool) : Cat := { C with ver := C.ver + 1, idxs := setL id st bad C.idxs }

theorem setL_take {id st : Int} {bad : Bool} {l : List Idx} {k : Nat} {u : Idx} (h : l[k]? = some u) : setL id st bad (l.take (k + 1)) = setL id st bad (l.take k) ++ (if (setI id st bad u).state = 0 then [] else [setI id st bad u]) := by
  unfold setL
  rw [take_at h, List.map_append, List.filter_append]
  by_cases hp : (setI id st bad u).state = 0 <;> simp [hp]
theorem setL_len (id st : Int) (bad : Bool) (l : List Idx) : (setL id st bad l).length ≤ l.length := by
  unfold setL
  have := List.length_filter_le (fun x : Idx => decide (¬ x.state = 0)) (l.map (setI id st bad))
  rwa [List.length_map] at this

set_option maxHeartbeats 8000000 in
theorem rSet_any {N : Nat → Prop} {w : World} {cs : List Value} {C : Cat} (h : CatN N w cs C) (hN : ∀ k, N k → k < w.heap.size) (hS : C.S) (hv : -9223372036854775808 ≤ C.ver ∧ C.ver < 9223372036854775807) (id st : Int) (bad : Bool) :
    Calls Try.prog 62 #[.agg cs.toArray, .int .i64 id, .int .i64 st, .bool bad] w (fun e w' => ∃ vs : List Value, e = .returned (.agg vs.toArray) ∧ Below w.heap.size w w' ∧ CatN (fun k => w.heap.size ≤ k ∧ k < w'.heap.size) w' vs (setM C id st bad)) := by
  have HH := hid h
  obtain ⟨x, y, rfl, hx, hy, -, -⟩ := h
  obtain ⟨ao, c, rfl, h1, h2, -⟩ := tb_cells hx
  obtain ⟨ko, d, rfl, g1, g2, -⟩ := ix_cells hy
  have HNK := hid hN
  have HS := hid hS
  have HV := hid hv
  have HL2 := hid hS.2.1
  have hkm : C.idxs.length ≤ 100 := hS.2.1
  clear hx hy hN hS hv
  go_enter Try.func62, Try.ntmps62
  go_upto_region 1 with fail
  have hb := (Below.refl w.heap.size w).alloc (Nat.le_refl _) (.cells #[.int .i64 C.ver, .int .i64 C.nxt, .slice ao C.tabs.length c, .slice ko C.idxs.length d] 25)
  have hz := heap_alloc_new w (.cells #[.int .i64 C.ver, .int .i64 C.nxt, .slice ao C.tabs.length c, .slice ko C.idxs.length d] 25)
  have hsz : (w.alloc (.cells #[.int .i64 C.ver, .int .i64 C.nxt, .slice ao C.tabs.length c, .slice ko C.idxs.length d] 25)).heap.size = w.heap.size + 1 := by simp
  generalize w.alloc (.cells #[.int .i64 C.ver, .int .i64 C.nxt, .slice ao C.tabs.length c, .slice ko C.idxs.length d] 25) = w1 at *
  have hz2 := heap_alloc_new w1 (.cells #[.int .i64 0, .int .i64 0, .slice none 0 0, .slice none 0 0] 25)
  have HB := hid (hb.alloc hb.size (.cells #[.int .i64 0, .int .i64 0, .slice none 0 0, .slice none 0 0] 25))
  have HZ := hid (((Below.refl _ w1).alloc (Nat.le_refl _) (.cells #[.int .i64 0, .int .i64 0, .slice none 0 0, .slice none 0 0] 25)).block _ (lt_of_block hz) |>.trans hz)
  have hsz2 : (w1.alloc (.cells #[.int .i64 0, .int .i64 0, .slice none 0 0, .slice none 0 0] 25)).heap.size = w.heap.size + 2 := by simp [hsz]
  rw [hsz] at hz2
  generalize w1.alloc (.cells #[.int .i64 0, .int .i64 0, .slice none 0 0, .slice none 0 0] 25) = w2 at *
  have HZ2 := hid hz2
  have HSZ := hid hsz2
  clear hz2 hb hz hsz hsz2
  have z0 := cell_in HZ.out 0 _ rfl
  have z1 := cell_in HZ.out 1 _ rfl
  have z2 := cell_in HZ.out 2 _ rfl
  have z3 := cell_in HZ.out 3 _ rfl
  have CC := hid (rCopy_any (HH.out.old HB.out) (fun k hk => Nat.lt_of_lt_of_le (HNK.out k hk) HB.out.size) HS.out)
  go_upto_region 2 with (first | (go_at_call 11; refine CC.out.mono ?_; rintro en w3 ⟨vs, rfl, hb3, hc3⟩; obtain ⟨vx, vy, rfl, ho1, ho2, ho3⟩ := hc3; obtain ⟨xa, xc, rfl⟩ := own_form ho1; obtain ⟨ya, yc, rfl⟩ := own_form ho2; have HB3 := hid hb3; have HO1 := hid ho1; have HO2 := hid ho2; clear hb3 ho1 ho2 ho3))
  have hb4 := (Below.refl w3.heap.size w3).alloc (Nat.le_refl _) (.cells #[.int .i64 C.ver, .int .i64 C.nxt, .slice xa C.tabs.length xc, .slice ya C.idxs.length yc] 25)
  have hz4 := heap_alloc_new w3 (.cells #[.int .i64 C.ver, .int .i64 C.nxt, .slice xa C.tabs.length xc, .slice ya C.idxs.length yc] 25)
  have hs4 : (w3.alloc (.cells #[.int .i64 C.ver, .int .i64 C.nxt, .slice xa C.tabs.length xc, .slice ya C.idxs.length yc] 25)).heap.size = w3.heap.size + 1 := by simp
  generalize w3.alloc (.cells #[.int .i64 C.ver, .int .i64 C.nxt, .slice xa C.tabs.length xc, .slice ya C.idxs.length yc] 25) = w4 at *
  have HB4 := hid hb4
  have HZ4 := hid hz4
  have HS4 := hid hs4
  have HBA := hid (below_step HB.out (below_step HB3.out hb4))
  have HS24 : Hid (w.heap.size + 2 ≤ w3.heap.size) := hid (by have := HB3.out.size; have := HSZ.out; omega)
  clear hb4 hz4 hs4 z0 z1 z2 z3
  obtain ⟨yo', yc', hy9, -, -, gc⟩ := ix_cells (N := fun q => w2.heap.size ≤ q ∧ q < w3.heap.size) ((HO2.out.lst (fun q => w2.heap.size ≤ q ∧ q < w3.heap.size) (fun q e => ⟨by have := (HO2.out.lt q e).1; have := HSZ.out; omega, (HO2.out.lt q e).2⟩)).mono (fun _ e => e) (fun r a h => h.mono (fun q e => ⟨by have := e.1.1; have := HSZ.out; omega, e.1.2.1⟩)))
  simp only [Value.slice.injEq] at hy9
  obtain ⟨rfl, -, rfl⟩ := hy9
  have HC := hid gc
  clear gc
  go_wp2_with fail
  go_loopw [10, 11] (fun v j wr => ∃ k : Nat, k ≤ C.idxs.length ∧ j = .int .i64 (k : Int) ∧ Below w4.heap.size w4 wr ∧ OwnL (IdxN fun q => w2.heap.size ≤ q ∧ q < w3.heap.size) 7 37 w4.heap.size wr v (setL id st bad (C.idxs.take k)))
    (fun _ j _ => C.idxs.length - (intOf j).toNat)
  case atStart => exact ⟨0, by omega, rfl, Below.refl _ _, OwnL.nil _ _ _ _ _⟩
  case round =>
    obtain ⟨k, hk, rfl, hbr, hown⟩ := hrel
    have HBR := hid hbr
    have HBR3 := hid (below_step HB4.out hbr)
    have HOW := hid hown
    have HSR := hid hbr.size
    clear hbr hown
    have z3 := cell_in ((HBR.out.block _ (lt_of_block HZ4.out)).trans HZ4.out) 3 _ rfl
    by_cases hlt : k < C.idxs.length
    · obtain ⟨u, hu⟩ : ∃ u, C.idxs[k]? = some u := ⟨_, List.getElem?_eq_getElem hlt⟩
      obtain ⟨b, off, a1, e1, rfl, ht, c0, c1, c2, c3, c4, c5, c6⟩ := HC.out k u hu
      have hki : (k : Int) < (C.idxs.length : Int) := by omega
      have k0 := (HBR3.out.cell (block_cell c0)).trans c0
      have k1 := (HBR3.out.cell (block_cell c1)).trans c1
      have k2 := (HBR3.out.cell (block_cell c2)).trans c2
      have k3 := (HBR3.out.cell (block_cell c3)).trans c3
      have k4 := (HBR3.out.cell (block_cell c4)).trans c4
      have k5 := (HBR3.out.cell (block_cell c5)).trans c5
      have k6 := (HBR3.out.cell (block_cell c6)).trans c6
      clear c0 c1 c2 c3 c4 c5 c6
      have HT := hid ht
      have HTK := hid (setL_take (id := id) (st := st) (bad := bad) hu)
      have HLF : Hid ((setL id st bad (C.idxs.take k)).length ≤ 100) := hid (by have := setL_len id st bad (C.idxs.take k); rw [List.length_take] at this; omega)
      clear ht hu
      go_upto_region 7 with fail
      have hb5 := (Below.refl wr.heap.size wr).alloc (Nat.le_refl _) (.cells #[.int .i64 u.id, .int .i64 u.table, .string ⟨u.name.toArray⟩, .slice a1 u.cols.length e1, .bool u.uniq, .int .i64 u.state, .bool u.bad] 37)
      have hz5 := heap_alloc_new wr (.cells #[.int .i64 u.id, .int .i64 u.table, .string ⟨u.name.toArray⟩, .slice a1 u.cols.length e1, .bool u.uniq, .int .i64 u.state, .bool u.bad] 37)
      have hs5 : (wr.alloc (.cells #[.int .i64 u.id, .int .i64 u.table, .string ⟨u.name.toArray⟩, .slice a1 u.cols.length e1, .bool u.uniq, .int .i64 u.state, .bool u.bad] 37)).heap.size = wr.heap.size + 1 := by simp
      generalize wr.alloc (.cells #[.int .i64 u.id, .int .i64 u.table, .string ⟨u.name.toArray⟩, .slice a1 u.cols.length e1, .bool u.uniq, .int .i64 u.state, .bool u.bad] 37) = w5 at *
      have HB5 := hid hb5
      have HZ5 := hid hz5
      have HS5 := hid hs5
      have y0 := cell_in hz5 0 _ rfl
      clear hb5 hz5 hs5 k0 k1 k2 k3 k4 k5 k6 z3
      go_upto_if 30 with fail
      obtain ⟨u', hu'⟩ : ∃ u', u' = setI id st bad u := ⟨_, rfl⟩
      have HU' := hid hu'
      go_cut [] from 30 to 34 (fun wx => wx.heap[wr.heap.size]? = some (.cells #[.int .i64 u'.id, .int .i64 u'.table, .string ⟨u'.name.toArray⟩, .slice a1 u'.cols.length e1, .bool u'.uniq, .int .i64 u'.state, .bool u'.bad] 37 (0, 0)) ∧ Below wr.heap.size wr wx ∧ u'.cols = u.cols)
      case first =>
        cases hq : (u.id == id) with
        | true =>
          have e9 : u' = { u with state := st, bad := bad } := by rw [hu']; unfold setI; rw [if_pos (by simpa using hq)]
          have HE := hid e9
          clear hu' e9
          have d5 := cell_in HZ5.out 5 _ rfl
          have d6 := cell_in HZ5.out 6 _ rfl
          have d5f := free_in HZ5.out 5
          have d6f := free_in HZ5.out 6
          go_wp2_with fail
          go_meet
          rw [HE.out]
          exact ⟨put_in (put_in HZ5.out 5 (.int .i64 st)) 6 (.bool bad), (HB5.out.setCell (Nat.le_refl _) _).setCell (Nat.le_refl _) _, rfl⟩
        | false =>
          have e9 : u' = u := by rw [hu']; unfold setI; rw [if_neg (by simpa using hq)]
          have HE := hid e9
          clear hu' e9
          go_wp2_with fail
          go_meet
          rw [HE.out]
          exact ⟨HZ5.out, HB5.out, rfl⟩
      case rest =>
        obtain ⟨hzx, hbx, huc⟩ := hcut
        have HBX := hid hbx
        have HZX := hid hzx
        have HUC := hid huc
        have r0 := cell_in hzx 0 _ rfl
        have r1 := cell_in hzx 1 _ rfl
        have r2 := cell_in hzx 2 _ rfl
        have r3 := cell_in hzx 3 _ rfl
        have r4 := cell_in hzx 4 _ rfl
        have r5 := cell_in hzx 5 _ rfl
        have r6 := cell_in hzx 6 _ rfl
        rw [← HU'.out] at HTK
        clear hzx hbx huc hu' y0
        have HOX := hid (HOW.out.mono (R' := IdxN fun q => w2.heap.size ≤ q ∧ q < w3.heap.size) (Keep.of_below (X := fun _ => False) HBX.out) (fun _ _ e => e) (fun r a h => h.old HBX.out))
        by_cases hq : u'.state = 0
        · have hq9 : (u'.state != 0) = false := by simp [hq]
          rw [if_pos hq, List.append_nil] at HTK
          clear hq
          go_wp2_with fail
          go_roundw
          case rel => exact ⟨k + 1, by omega, by go_num, below_step HBR.out HBX.out, by rw [HTK.out]; exact HOX.out⟩
          case measure => simp [intOf]; omega
        · have hq9 : (u'.state != 0) = true := by simp [hq]
          rw [if_neg hq] at HTK
          clear hq
          have H5 : Hid (Below wc.heap.size wc (wc.alloc (.cells #[.int .i64 u'.id, .int .i64 u'.table, .string ⟨u'.name.toArray⟩, .slice a1 u'.cols.length e1, .bool u'.uniq, .int .i64 u'.state, .bool u'.bad] 37))) := hid ((Below.refl _ _).alloc (Nat.le_refl _) _)
          have HR5 := hid (heap_alloc_new wc (.cells #[.int .i64 u'.id, .int .i64 u'.table, .string ⟨u'.name.toArray⟩, .slice a1 u'.cols.length e1, .bool u'.uniq, .int .i64 u'.state, .bool u'.bad] 37))
          have HB6 := hid (below_step HBX.out H5.out)
          have HO5 := hid (HOX.out.mono (R' := IdxN fun q => w2.heap.size ≤ q ∧ q < w3.heap.size) (Keep.of_below (X := fun _ => False) H5.out) (fun _ _ e => e) (fun r a h => h.old H5.out))
          have HNU : Hid (IdxN (fun q => w2.heap.size ≤ q ∧ q < w3.heap.size) (wc.alloc (.cells #[.int .i64 u'.id, .int .i64 u'.table, .string ⟨u'.name.toArray⟩, .slice a1 u'.cols.length e1, .bool u'.uniq, .int .i64 u'.state, .bool u'.bad] 37)) [.int .i64 u'.id, .int .i64 u'.table, .string ⟨u'.name.toArray⟩, .slice a1 u'.cols.length e1, .bool u'.uniq, .int .i64 u'.state, .bool u'.bad] u') := hid (by
            have hh := HT.out.old (below_step HB4.out (below_step HBR.out HB6.out))
            obtain ⟨y', e9, hy9, -⟩ := hh
            simp only [List.cons.injEq, and_true, true_and] at e9
            obtain rfl := e9
            rw [← HUC.out] at hy9
            exact ⟨_, rfl, hy9, rfl⟩)
          go_wp2_with (first
            | (at_builtin; refine wp_lapp (by rfl) _ _ 23 rfl w4.heap.size 7 80 37 Try.underlying23 (.agg #[.int .i64 0, .int .i64 0, .string ⟨#[]⟩, .slice none 0 0, .bool false, .int .i64 0, .bool false]) (by kernel_rfl) (by simp [Value.cells]) (by decide) _ _ rfl HO5.out wc.heap.size [.int .i64 u'.id, .int .i64 u'.table, .string ⟨u'.name.toArray⟩, .slice a1 u'.cols.length e1, .bool u'.uniq, .int .i64 u'.state, .bool u'.bad] rfl (fun j q hj => cell_in HR5.out j q (by simpa using hj)) rfl ?q1 ?q2 ?q3 ?q4 (fun v' w' p1 p2 p3 => ?_)))
          case q1 => intro q hq9; simp only [List.mem_cons, List.not_mem_nil, or_false] at hq9; rcases hq9 with rfl | rfl | rfl | rfl | rfl | rfl | rfl <;> rfl
          case q2 => unfold maxLen; have := HLF.out; omega
          case q3 => have := HLF.out; omega
          case q4 => have := HSR.out; have := HB6.out.size; omega
          have hlv := HOW.out.lt
          have hkg := Keep.of_grown (X := fun q => w4.heap.size ≤ q) p2 (fun k hk9 => (hlv k hk9).1)
          have HBE : Hid (Below w4.heap.size w4 w') := hid (Below.grown (below_step HBR.out HB6.out) p2 (by have := HSR.out; have := HB6.out.size; omega) (fun q hq9 => (hlv q hq9).1))
          have hs4 := HS4.out
          have HO6 := hid (p1 (IdxN fun q => w2.heap.size ≤ q ∧ q < w3.heap.size) u' (fun q a h => h.keep hkg (fun k e e9 => by have := e.2; omega)) (HNU.out.keep hkg (fun k e e9 => by have := e.2; omega)))
          clear p1 p2 p3 hlv hkg hs4
          go_wp2_with fail
          go_roundw
          case rel => exact ⟨k + 1, by omega, by go_num, HBE.out, by rw [HTK.out]; exact HO6.out⟩
          case measure => simp [intOf]; omega
    · obtain rfl : k = C.idxs.length := by omega
      rw [List.take_length] at HOW
      clear hk hlt
      have hki : ¬ (C.idxs.length : Int) < (C.idxs.length : Int) := by omega
      obtain ⟨f2, q2, rfl⟩ := own_form HOW.out
      have HN0 := hid ((HBR.out.block _ (lt_of_block HZ4.out)).trans HZ4.out)
      have n0 := cell_in HN0.out 0 _ rfl
      have n3 := cell_in HN0.out 3 _ rfl
      have n0f := free_in HN0.out 0
      have n3f := free_in HN0.out 3
      go_upto_region 12 with fail
      have HN1 : Hid ((wr.setCell ⟨w3.heap.size, 3, none⟩ (.slice f2 (setL id st bad C.idxs).length q2)).heap[w3.heap.size]? = some (.cells #[.int .i64 C.ver, .int .i64 C.nxt, .slice xa C.tabs.length xc, .slice f2 (setL id st bad C.idxs).length q2] 25 (0, 0))) := hid (put_in HN0.out 3 (.slice f2 (setL id st bad C.idxs).length q2))
      have HX1 : Hid (Keep (fun k => k = w3.heap.size ∨ k = w.heap.size + 1) wr (wr.setCell ⟨w3.heap.size, 3, none⟩ (.slice f2 (setL id st bad C.idxs).length q2))) := hid (Keep.set _ _ _ (.inl rfl))
      have HY1 : Hid ((wr.setCell ⟨w3.heap.size, 3, none⟩ (.slice f2 (setL id st bad C.idxs).length q2)).heap[w.heap.size + 1]? = wr.heap[w.heap.size + 1]?) := hid (Below.heap_setCell _ _ _ _ (by have := HS24.out; show w.heap.size + 1 ≠ w3.heap.size; omega))
      generalize wr.setCell ⟨w3.heap.size, 3, none⟩ (.slice f2 (setL id st bad C.idxs).length q2) = y1 at *
      clear n0 n3 n0f n3f
      have n0 := cell_in HN1.out 0 _ rfl
      have n0f := free_in HN1.out 0
      have hvw : wrap64 (C.ver + 1) = C.ver + 1 := by have := HV.out; unfold wrap64; omega
      go_upto_region 13 with fail
      have HN2 : Hid ((y1.setCell ⟨w3.heap.size, 0, none⟩ (.int .i64 (C.ver + 1))).heap[w3.heap.size]? = some (.cells #[.int .i64 (C.ver + 1), .int .i64 C.nxt, .slice xa C.tabs.length xc, .slice f2 (setL id st bad C.idxs).length q2] 25 (0, 0))) := hid (put_in HN1.out 0 (.int .i64 (C.ver + 1)))
      have HX2 : Hid (Keep (fun k => k = w3.heap.size ∨ k = w.heap.size + 1) wr (y1.setCell ⟨w3.heap.size, 0, none⟩ (.int .i64 (C.ver + 1)))) := hid (HX1.out.trans (Keep.set _ _ _ (.inl rfl)))
      have HR0 : Hid ((y1.setCell ⟨w3.heap.size, 0, none⟩ (.int .i64 (C.ver + 1))).heap[w.heap.size + 1]? = some (.cells #[.int .i64 0, .int .i64 0, .slice none 0 0, .slice none 0 0] 25 (0, 0))) := hid (by
        have a1 := HS24.out
        have a2 := lt_of_block HZ2.out
        have a3 := (HB3.out.block _ a2).trans HZ2.out
        have a4 := (HB4.out.block _ (lt_of_block a3)).trans a3
        have a5 := (HBR.out.block _ (lt_of_block a4)).trans a4
        rw [Below.heap_setCell _ _ _ _ (by show w.heap.size + 1 ≠ w3.heap.size; omega), ← a5]
        exact HY1.out)
      generalize y1.setCell ⟨w3.heap.size, 0, none⟩ (.int .i64 (C.ver + 1)) = y2 at *
      clear n0 n0f hvw
      have m0 := cell_in HN2.out 0 _ rfl
      have m1 := cell_in HN2.out 1 _ rfl
      have m2 := cell_in HN2.out 2 _ rfl
      have m3 := cell_in HN2.out 3 _ rfl
      have r0 := cell_in HR0.out 0 _ rfl
      have r1 := cell_in HR0.out 1 _ rfl
      have r2 := cell_in HR0.out 2 _ rfl
      have r3 := cell_in HR0.out 3 _ rfl
      have r0f := free_in HR0.out 0
      have r1f := free_in HR0.out 1
      have r2f := free_in HR0.out 2
      have r3f := free_in HR0.out 3
      go_wp2_with fail
      have HD1 : Hid ((y2.setCell ⟨w.heap.size + 1, 0, none⟩ (.int .i64 (C.ver + 1))).heap[w.heap.size + 1]? = some (.cells #[.int .i64 (C.ver + 1), .int .i64 0, .slice none 0 0, .slice none 0 0] 25 (0, 0))) := hid (put_in HR0.out 0 (.int .i64 (C.ver + 1)))
      have HKz1 : Hid (Keep (fun k => k = w3.heap.size ∨ k = w.heap.size + 1) wr (y2.setCell ⟨w.heap.size + 1, 0, none⟩ (.int .i64 (C.ver + 1)))) := hid (HX2.out.trans (Keep.set _ _ _ (.inr rfl)))
      generalize y2.setCell ⟨w.heap.size + 1, 0, none⟩ (.int .i64 (C.ver + 1)) = s1 at *
      have HD2 : Hid ((s1.setCell ⟨w.heap.size + 1, 1, none⟩ (.int .i64 C.nxt)).heap[w.heap.size + 1]? = some (.cells #[.int .i64 (C.ver + 1), .int .i64 C.nxt, .slice none 0 0, .slice none 0 0] 25 (0, 0))) := hid (put_in HD1.out 1 (.int .i64 C.nxt))
      have HKz2 : Hid (Keep (fun k => k = w3.heap.size ∨ k = w.heap.size + 1) wr (s1.setCell ⟨w.heap.size + 1, 1, none⟩ (.int .i64 C.nxt))) := hid (HKz1.out.trans (Keep.set _ _ _ (.inr rfl)))
      generalize s1.setCell ⟨w.heap.size + 1, 1, none⟩ (.int .i64 C.nxt) = s2 at *
      have HD3 : Hid ((s2.setCell ⟨w.heap.size + 1, 2, none⟩ (.slice xa C.tabs.length xc)).heap[w.heap.size + 1]? = some (.cells #[.int .i64 (C.ver + 1), .int .i64 C.nxt, .slice xa C.tabs.length xc, .slice none 0 0] 25 (0, 0))) := hid (put_in HD2.out 2 (.slice xa C.tabs.length xc))
      have HKz3 : Hid (Keep (fun k => k = w3.heap.size ∨ k = w.heap.size + 1) wr (s2.setCell ⟨w.heap.size + 1, 2, none⟩ (.slice xa C.tabs.length xc))) := hid (HKz2.out.trans (Keep.set _ _ _ (.inr rfl)))
      generalize s2.setCell ⟨w.heap.size + 1, 2, none⟩ (.slice xa C.tabs.length xc) = s3 at *
      have HD4 : Hid ((s3.setCell ⟨w.heap.size + 1, 3, none⟩ (.slice f2 (setL id st bad C.idxs).length q2)).heap[w.heap.size + 1]? = some (.cells #[.int .i64 (C.ver + 1), .int .i64 C.nxt, .slice xa C.tabs.length xc, .slice f2 (setL id st bad C.idxs).length q2] 25 (0, 0))) := hid (put_in HD3.out 3 (.slice f2 (setL id st bad C.idxs).length q2))
      have HKz4 : Hid (Keep (fun k => k = w3.heap.size ∨ k = w.heap.size + 1) wr (s3.setCell ⟨w.heap.size + 1, 3, none⟩ (.slice f2 (setL id st bad C.idxs).length q2))) := hid (HKz3.out.trans (Keep.set _ _ _ (.inr rfl)))
      generalize s3.setCell ⟨w.heap.size + 1, 3, none⟩ (.slice f2 (setL id st bad C.idxs).length q2) = s4 at *
      refine bodyPost_ret (results_cell_row rfl _ _ (w.heap.size + 1) 25 _ (0, 0) _ rfl HD4.out Try.underlying25 rfl (by kernel_rfl)) rfl ?_
      have hl1 := HO1.out.lt
      have hl2 := HOW.out.lt
      have hsz := HSZ.out
      have hs4 := HS4.out
      have hsk := HKz4.out.size
      have hsr := HBR.out.size
      have h24 := HS24.out
      have hk3 : Keep (fun k => k = w3.heap.size ∨ k = w.heap.size + 1) w3 s4 := (Keep.of_below (below_step HB4.out HBR.out)).trans HKz4.out
      have hbw : Below w.heap.size w s4 := (below_step HBA.out HBR.out).trans (HKz4.out.below (by omega) (fun k e => by rcases e with e | e <;> omega))
      have hno : ∀ k, NewQ w2.heap.size w3 (Value.slice xa C.tabs.length xc) k → ¬ (k = w3.heap.size ∨ k = w.heap.size + 1) := fun k e e9 => by have := e.1; have := e.2.1; omega
      have e1 : (setM C id st bad).idxs = (setL id st bad C.idxs) := rfl
      refine ⟨_, rfl, hbw, _, _, rfl, ?_, ?_, rfl, rfl⟩
      · exact ((HO1.out.lst (fun k => w2.heap.size ≤ k ∧ k < w3.heap.size) (fun k e => hl1 k e)).keep hk3 (fun k e e9 => by omega) (fun r a h => h.keep hk3 (fun k e => hno k e.1))).mono (R' := TabN fun k => w.heap.size ≤ k ∧ k < s4.heap.size) (fun k e => by omega) (fun r a h => h.mono (fun k e => ⟨by have := e.1.1; omega, by have := e.1.2.1; omega⟩))
      · rw [e1]
        refine (HOW.out.mono (R' := IdxN fun k => w.heap.size ≤ k ∧ k < s4.heap.size) HKz4.out (fun k e e9 => by have := (hl2 k e).1; omega) (fun r a h => (h.keep HKz4.out (fun k e e9 => ?_)).mono (fun k e => by omega))).lst _ (fun k e => ?_)
        · rcases e9 with e9 | e9 <;> omega
        · have := hl2 k e; omega
end Go.Proofs.Ytkpeidhddicdmaa
