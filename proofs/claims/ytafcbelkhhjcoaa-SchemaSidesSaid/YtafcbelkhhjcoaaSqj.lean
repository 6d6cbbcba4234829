/-
  LAYER 12, THE CODE's: tableAt, indexAt; rightNumbers, rightIDs, rightNames, rightTables.
-/
import Derived.Test.YtafcbelkhhjcoaaSqi
set_option linter.unusedVariables false
set_option linter.unusedSimpArgs false
set_option maxRecDepth 100000
namespace Go.Proofs.Ytafcbelkhhjcoaa
open Go.RowKit Go.Deep

theorem cat_open {N : Nat → Prop} {w : World} {cs : List Value} {C : Cat} (h : CatN N w cs C) : ∃ a c a' c', cs = [.int .i64 C.ver, .int .i64 C.nxt, .slice a C.tabs.length c, .slice a' C.idxs.length c'] ∧ LstN (TabN N) 4 N w (.slice a C.tabs.length c) C.tabs ∧ LstN (IdxN N) 7 N w (.slice a' C.idxs.length c') C.idxs ∧ C.tabs.length ≤ 9223372036854775807 ∧ C.idxs.length ≤ 9223372036854775807 := by
  obtain ⟨x, y, rfl, hx, hy, -, -⟩ := h
  obtain ⟨ao, c, rfl, h1, h2, -⟩ := tb_cells hx
  obtain ⟨ko, d, rfl, g1, g2, -⟩ := ix_cells hy
  exact ⟨ao, c, ko, d, rfl, hx, hy, by unfold maxLen at h2; omega, by unfold maxLen at g2; omega⟩
theorem LstN.oldT {N : Nat → Prop} {w w' : World} {x : Value} {l : List Tab} (h : LstN (TabN N) 4 N w x l) (hb : Below w.heap.size w w') : LstN (TabN N) 4 N w' x l :=
  h.keep (X := fun _ => False) (Keep.of_below hb) (fun _ _ e => e) (fun _ _ h => h.old hb)
theorem LstN.oldI {N : Nat → Prop} {w w' : World} {x : Value} {l : List Idx} (h : LstN (IdxN N) 7 N w x l) (hb : Below w.heap.size w w') : LstN (IdxN N) 7 N w' x l :=
  h.keep (X := fun _ => False) (Keep.of_below hb) (fun _ _ e => e) (fun _ _ h => h.old hb)

set_option maxHeartbeats 4000000 in
theorem tableAt_any {N : Nat → Prop} {w : World} {cs : List Value} {C : Cat} (h : CatN N w cs C) (s : List UInt8) : Calls Try.prog 101 #[.agg cs.toArray, .string ⟨s.toArray⟩] w (fun e w' => e = .returned (.int .i64 (fidx (fun t => decide (t.name = s)) C.tabs)) ∧ Below w.heap.size w w') := by
  obtain ⟨a, c, a', c', rfl, ht, hi, hl1, hl2⟩ := cat_open h
  have HT := hid ht
  clear h ht hi
  go_enter Try.func101, Try.ntmps101
  go_upto_region 1 with fail
  have hb0 := (Below.refl w.heap.size w).alloc (Nat.le_refl _) (.cells #[.int .i64 C.ver, .int .i64 C.nxt, .slice a C.tabs.length c, .slice a' C.idxs.length c'] 25)
  have hz0 := heap_alloc_new w (.cells #[.int .i64 C.ver, .int .i64 C.nxt, .slice a C.tabs.length c, .slice a' C.idxs.length c'] 25)
  have hsz : (w.alloc (.cells #[.int .i64 C.ver, .int .i64 C.nxt, .slice a C.tabs.length c, .slice a' C.idxs.length c'] 25)).heap.size = w.heap.size + 1 := by simp
  generalize w.alloc (.cells #[.int .i64 C.ver, .int .i64 C.nxt, .slice a C.tabs.length c, .slice a' C.idxs.length c'] 25) = w0 at *
  have hb := hb0.alloc (by omega) (.cells #[.string ⟨s.toArray⟩] 9)
  have hbz := (Below.refl w0.heap.size w0).alloc (Nat.le_refl _) (.cells #[.string ⟨s.toArray⟩] 9)
  have hz := heap_alloc_new w0 (.cells #[.string ⟨s.toArray⟩] 9)
  rw [hsz] at hz
  generalize w0.alloc (.cells #[.string ⟨s.toArray⟩] 9) = w1 at *
  have hz2 := (hbz.block _ (lt_of_block hz0)).trans hz0
  have HB := hid hb
  clear hb hb0 hbz hz0 hsz
  have i2 := cell_in hz2 2 _ rfl
  have i3 := cell_in hz2 3 _ rfl
  have z0 := cell_in hz 0 _ rfl
  have CF := hid (tableAtF_any w1 (HT.out.oldT HB.out) s (w.heap.size + 1) z0)
  clear hz hz2
  go_wp2_with (first | (go_at_call 180; refine CF.out.mono ?_; rintro en w4 ⟨rfl, hb4⟩; have HB4 := hid (below_step HB.out hb4); clear hb4))
  go_ret
  exact ⟨rfl, HB4.out⟩

set_option maxHeartbeats 4000000 in
theorem indexAt_any {N : Nat → Prop} {w : World} {cs : List Value} {C : Cat} (h : CatN N w cs C) (s : List UInt8) : Calls Try.prog 103 #[.agg cs.toArray, .string ⟨s.toArray⟩] w (fun e w' => e = .returned (.int .i64 (fidx (fun t => decide (t.name = s)) C.idxs)) ∧ Below w.heap.size w w') := by
  obtain ⟨a, c, a', c', rfl, ht, hi, hl1, hl2⟩ := cat_open h
  have HT := hid hi
  clear h ht hi
  go_enter Try.func103, Try.ntmps103
  go_upto_region 1 with fail
  have hb0 := (Below.refl w.heap.size w).alloc (Nat.le_refl _) (.cells #[.int .i64 C.ver, .int .i64 C.nxt, .slice a C.tabs.length c, .slice a' C.idxs.length c'] 25)
  have hz0 := heap_alloc_new w (.cells #[.int .i64 C.ver, .int .i64 C.nxt, .slice a C.tabs.length c, .slice a' C.idxs.length c'] 25)
  have hsz : (w.alloc (.cells #[.int .i64 C.ver, .int .i64 C.nxt, .slice a C.tabs.length c, .slice a' C.idxs.length c'] 25)).heap.size = w.heap.size + 1 := by simp
  generalize w.alloc (.cells #[.int .i64 C.ver, .int .i64 C.nxt, .slice a C.tabs.length c, .slice a' C.idxs.length c'] 25) = w0 at *
  have hb := hb0.alloc (by omega) (.cells #[.string ⟨s.toArray⟩] 9)
  have hbz := (Below.refl w0.heap.size w0).alloc (Nat.le_refl _) (.cells #[.string ⟨s.toArray⟩] 9)
  have hz := heap_alloc_new w0 (.cells #[.string ⟨s.toArray⟩] 9)
  rw [hsz] at hz
  generalize w0.alloc (.cells #[.string ⟨s.toArray⟩] 9) = w1 at *
  have hz2 := (hbz.block _ (lt_of_block hz0)).trans hz0
  have HB := hid hb
  clear hb hb0 hbz hz0 hsz
  have i2 := cell_in hz2 2 _ rfl
  have i3 := cell_in hz2 3 _ rfl
  have z0 := cell_in hz 0 _ rfl
  have CF := hid (indexAtF_any w1 (HT.out.oldI HB.out) s (w.heap.size + 1) z0)
  clear hz hz2
  go_wp2_with (first | (go_at_call 110; refine CF.out.mono ?_; rintro en w4 ⟨rfl, hb4⟩; have HB4 := hid (below_step HB.out hb4); clear hb4))
  go_ret
  exact ⟨rfl, HB4.out⟩

set_option maxHeartbeats 4000000 in
theorem rgtNum_any {N : Nat → Prop} {w : World} {cs : List Value} {C : Cat} (h : CatN N w cs C) : Calls Try.prog 92 #[.agg cs.toArray] w (fun e w' => e = .returned (.bool (numsF C)) ∧ Below w.heap.size w w') := by
  obtain ⟨a, c, a', c', rfl, -, -, hl1, hl2⟩ := cat_open h
  clear h
  go_enter Try.func92, Try.ntmps92
  go_upto_region 1 with fail
  have hb := (Below.refl w.heap.size w).alloc (Nat.le_refl _) (.cells #[.int .i64 C.ver, .int .i64 C.nxt, .slice a C.tabs.length c, .slice a' C.idxs.length c'] 25)
  have hz := heap_alloc_new w (.cells #[.int .i64 C.ver, .int .i64 C.nxt, .slice a C.tabs.length c, .slice a' C.idxs.length c'] 25)
  generalize w.alloc (.cells #[.int .i64 C.ver, .int .i64 C.nxt, .slice a C.tabs.length c, .slice a' C.idxs.length c'] 25) = w1 at *
  have HB := hid hb
  have z0 := cell_in hz 0 _ rfl
  have z1 := cell_in hz 1 _ rfl
  have z2 := cell_in hz 2 _ rfl
  have z3 := cell_in hz 3 _ rfl
  clear hb hz
  have HE : Hid (numsF C = (decide (0 ≤ C.ver) && decide (1 ≤ C.nxt) && decide (C.nxt ≤ 1073741824) && decide ((C.tabs.length : Int) ≤ 6) && decide ((C.idxs.length : Int) ≤ 10))) := hid (by
    unfold numsF
    rw [show decide ((C.tabs.length : Int) ≤ 6) = decide (C.tabs.length ≤ 6) by congr 1; simp; omega, show decide ((C.idxs.length : Int) ≤ 10) = decide (C.idxs.length ≤ 10) by congr 1; simp; omega])
  by_cases a1 : 0 ≤ C.ver
  case neg =>
    rw [decide_eq_false a1] at HE
    go_wp2_with fail
    go_ret
    exact ⟨by rw [HE.out]; rfl, HB.out⟩
  by_cases a2 : 1 ≤ C.nxt
  case neg =>
    rw [decide_eq_false a2, Bool.and_false] at HE
    go_wp2_with fail
    go_ret
    exact ⟨by rw [HE.out]; rfl, HB.out⟩
  by_cases a3 : C.nxt ≤ 1073741824
  case neg =>
    rw [decide_eq_false a3, Bool.and_false] at HE
    go_wp2_with fail
    go_ret
    exact ⟨by rw [HE.out]; rfl, HB.out⟩
  by_cases a4 : (C.tabs.length : Int) ≤ 6
  case neg =>
    rw [decide_eq_false a4, Bool.and_false] at HE
    go_wp2_with fail
    go_ret
    exact ⟨by rw [HE.out]; rfl, HB.out⟩
  rw [decide_eq_true a1, decide_eq_true a2, decide_eq_true a3, decide_eq_true a4] at HE
  go_wp2_with fail
  go_ret
  exact ⟨by rw [HE.out]; rfl, HB.out⟩

set_option maxHeartbeats 4000000 in
theorem rgtTab_any {N : Nat → Prop} {w : World} {cs : List Value} {C : Cat} (h : CatN N w cs C) (hw : ∀ t ∈ C.tabs, t.W) : Calls Try.prog 95 #[.agg cs.toArray] w (fun e w' => e = .returned (.bool (C.tabs.all tabB)) ∧ Below w.heap.size w w') := by
  obtain ⟨x, y, rfl, hx, hy, -, -⟩ := h
  obtain ⟨ao, c, rfl, h1, h2, hc⟩ := tb_cells hx
  obtain ⟨ko, d, rfl, g1, g2, -⟩ := ix_cells hy
  have hlm : C.tabs.length ≤ 9223372036854775807 := by unfold maxLen at h2; omega
  have HC := hid hc
  have HW := hid hw
  clear hx hy hc hw
  go_enter Try.func95, Try.ntmps95
  go_upto_region 1 with fail
  have hb := (Below.refl w.heap.size w).alloc (Nat.le_refl _) (.cells #[.int .i64 C.ver, .int .i64 C.nxt, .slice ao C.tabs.length c, .slice ko C.idxs.length d] 25)
  have hz := heap_alloc_new w (.cells #[.int .i64 C.ver, .int .i64 C.nxt, .slice ao C.tabs.length c, .slice ko C.idxs.length d] 25)
  generalize w.alloc (.cells #[.int .i64 C.ver, .int .i64 C.nxt, .slice ao C.tabs.length c, .slice ko C.idxs.length d] 25) = w1 at *
  have HB1 := hid hb
  have z2 := cell_in hz 2 _ rfl
  clear hb hz
  go_wp2_with fail
  go_loopw [8] (fun j wr => ∃ k : Nat, k ≤ C.tabs.length ∧ j = .int .i64 (k : Int) ∧ Below w.heap.size w wr ∧ (C.tabs.take k).all tabB = true)
    (fun j _ => C.tabs.length - (intOf j).toNat)
  case atStart => exact ⟨0, by omega, rfl, HB1.out, rfl⟩
  case round =>
    obtain ⟨k, hk, rfl, hb, ha⟩ := hrel
    have HB := hid hb
    have HA := hid ha
    clear hb ha
    by_cases hlt : k < C.tabs.length
    · obtain ⟨u, hu⟩ : ∃ u, C.tabs[k]? = some u := ⟨_, List.getElem?_eq_getElem hlt⟩
      obtain ⟨b, off, a1, e1, a2, e2, rfl, ht, c0, c1, c2, c3⟩ := HC.out k u hu
      have hki : (k : Int) < (C.tabs.length : Int) := by omega
      have k0 := (HB.out.cell (block_cell c0)).trans c0
      have k1 := (HB.out.cell (block_cell c1)).trans c1
      have k2 := (HB.out.cell (block_cell c2)).trans c2
      have k3 := (HB.out.cell (block_cell c3)).trans c3
      have HTN := hid ht
      clear c0 c1 c2 c3 ht
      have HT := hid (all_take' (p := tabB) hu HA.out)
      have HF : Hid (tabB u = false → C.tabs.all tabB = false) := hid (fun h => all_no hu h)
      have HUW := hid (HW.out u (List.mem_of_getElem? hu))
      clear hu
      go_upto_region 4 with fail
      have hb3 := (Below.refl wr.heap.size wr).alloc (Nat.le_refl _) (.cells #[.int .i64 u.id, .string ⟨u.name.toArray⟩, .slice a1 u.cols.length e1, .slice a2 u.key.length e2] 33)
      have hz3 := heap_alloc_new wr (.cells #[.int .i64 u.id, .string ⟨u.name.toArray⟩, .slice a1 u.cols.length e1, .slice a2 u.key.length e2] 33)
      generalize wr.alloc (.cells #[.int .i64 u.id, .string ⟨u.name.toArray⟩, .slice a1 u.cols.length e1, .slice a2 u.key.length e2] 33) = w3 at *
      have HB3 := hid (below_step HB.out hb3)
      have y0 := cell_in hz3 0 _ rfl
      have y1 := cell_in hz3 1 _ rfl
      have y2 := cell_in hz3 2 _ rfl
      have y3 := cell_in hz3 3 _ rfl
      clear hb3 hz3
      have CF := hid (tabFits_any (HTN.out.old HB3.out) HUW.out)
      cases hq : tabB u with
      | true =>
        rw [hq] at CF HT
        clear hq HF
        go_wp2_with (first | (go_at_call 113; refine CF.out.mono ?_; rintro en w4 ⟨rfl, hb4⟩; have HB4 := hid (below_step HB3.out hb4); clear hb4))
        go_roundw
        case rel => exact ⟨k + 1, by omega, by go_num, HB4.out, HT.out⟩
        case measure => simp [intOf]; omega
      | false =>
        have HF2 := hid (HF.out hq)
        rw [hq] at CF
        clear hq HF HT
        go_wp2_with (first | (go_at_call 113; refine CF.out.mono ?_; rintro en w4 ⟨rfl, hb4⟩; have HB4 := hid (below_step HB3.out hb4); clear hb4))
        go_ret
        exact ⟨by rw [HF2.out]; rfl, HB4.out⟩
    · obtain rfl : k = C.tabs.length := by omega
      rw [List.take_length] at HA
      go_wp2_with fail
      go_ret
      exact ⟨by rw [HA.out]; rfl, HB.out⟩
end Go.Proofs.Ytafcbelkhhjcoaa
