/-
  LAYER 12, THE CODE's: Drop, Step (made by src2/gen_sdrop.py).
-/
import Derived.Test.YtafcbelkhhjcoaaSqy
set_option linter.unusedVariables false
set_option linter.unusedSimpArgs false
set_option maxRecDepth 100000
namespace Go.Proofs.Ytafcbelkhhjcoaa
open Go.RowKit Go.Deep

theorem rs_gt {e : Int} : ∀ {a : Int} {l : List Int}, rsB e a l = true → ∀ z ∈ l, a < z
  | a, [], _, z, h => by cases h
  | a, n :: r, h, z, hz => by
    simp only [rsB, Bool.and_eq_true, Bool.not_eq_true', Bool.or_eq_false_iff, decide_eq_false_iff_not] at h
    rcases List.mem_cons.1 hz with rfl | hz
    · omega
    · have := rs_gt h.2 z hz; omega
theorem map_none {e : Int} {a id st : Int} {b : Bool} {l : List Idx} (h : rsB e a (l.map (·.id)) = true) (hid : id ≤ a) : l.map (setI id st b) = l := by
  rw [List.map_congr_left (g := fun x => x) (fun x hx => ?_), List.map_id']
  have := rs_gt h x.id (List.mem_map_of_mem hx)
  unfold setI; rw [if_neg (by omega)]
theorem map_setI {e : Int} (st : Int) (b : Bool) : ∀ (l : List Idx) (i : Nat) (x : Idx) (a : Int), rsB e a (l.map (·.id)) = true → l[i]? = some x → l.map (setI x.id st b) = l.set i { x with state := st, bad := b }
  | [], i, x, a, _, h => by cases h
  | y :: r, 0, x, a, h, hi => by
    simp only [List.getElem?_cons_zero, Option.some.injEq] at hi
    subst hi
    simp only [List.map_cons, rsB, Bool.and_eq_true] at h
    rw [List.map_cons, List.set_cons_zero, map_none h.2 (Int.le_refl _)]
    simp [setI]
  | y :: r, i + 1, x, a, h, hi => by
    simp only [List.getElem?_cons_succ] at hi
    simp only [List.map_cons, rsB, Bool.and_eq_true] at h
    have := rs_gt h.2 x.id (List.mem_map_of_mem (List.mem_of_getElem? hi))
    rw [List.map_cons, List.set_cons_succ, map_setI st b r i x y.id h.2 hi]
    unfold setI; rw [if_neg (by omega)]
theorem filter_set {p : Idx → Bool} {y : Idx} : ∀ (l : List Idx) (i : Nat), (∀ x ∈ l, p x = true) → i < l.length → p y = false → (l.set i y).filter p = l.take i ++ l.drop (i + 1)
  | [], i, _, h, _ => by simp at h
  | x :: r, 0, h, _, hy => by
    simp only [List.set_cons_zero, List.filter_cons, hy, List.take_zero, List.nil_append, List.drop_succ_cons, List.drop_zero]
    rw [List.filter_eq_self.2 (fun z hz => h z (by simp [hz]))]; simp
  | x :: r, i + 1, h, hi, hy => by
    simp only [List.set_cons_succ, List.filter_cons, h x (by simp), if_true, List.take_succ_cons, List.drop_succ_cons, List.cons_append]
    rw [filter_set r i (fun z hz => h z (by simp [hz])) (by simpa using hi) hy]
theorem catB_ids {C : Cat} (h : catB C = true) : rsB C.nxt 0 (C.idxs.map (·.id)) = true ∧ (∀ x ∈ C.idxs, 1 ≤ x.state ∧ x.state ≤ 7) := by
  rw [← catF_eq] at h
  simp only [Bool.and_eq_true, idsF] at h
  refine ⟨h.1.1.1.2.1.2, fun x hx => ?_⟩
  have := List.all_eq_true.1 h.2 x hx
  unfold idxF at this
  simp only [Bool.and_eq_true, decide_eq_true_eq] at this
  exact ⟨this.1.2, this.2⟩
theorem moved_set {C : Cat} (h : catB C = true) {i : Nat} {x : Idx} (hi : C.idxs[i]? = some x) (st : Int) (bad : Bool) : movedM C i st bad x = setM C x.id st (bad || x.bad) := by
  obtain ⟨h1, h2⟩ := catB_ids h
  have hm := map_setI st (bad || x.bad) C.idxs i x 0 h1 hi
  unfold movedM setM setL
  rw [hm]
  by_cases h0 : st = 0
  · rw [if_pos h0, filter_set C.idxs i (fun y hy => by have := h2 y hy; simp; omega) (List.getElem?_eq_some_iff.1 hi).1 (by simp [h0])]
  · rw [if_neg h0, Bool.or_comm x.bad bad]
    congr 1
    symm
    rw [List.filter_eq_self]
    intro y hy
    rcases List.mem_or_eq_of_mem_set hy with h3 | h3
    · have := h2 y h3; simp; omega
    · subst h3; simpa using h0


set_option maxHeartbeats 16000000 in
theorem drop_any {N : Nat → Prop} {w : World} {cs : List Value} {C : Cat} (h : CatN N w cs C) (hS : C.S) (hv : -9223372036854775808 ≤ C.ver ∧ C.ver < 9223372036854775807) (hR : catB C = true) (s : List UInt8) :
    Calls Try.prog 30 #[.agg cs.toArray, .string ⟨s.toArray⟩] w (ChN w (dropM C s)) := by
  have HH := hid h
  obtain ⟨a, c, a', c', rfl, -, -, hl1, hl2⟩ := cat_open h
  have HS := hid hS
  have HV := hid hv
  have HCR := hid hR
  have hil : C.idxs.length ≤ 100 := hS.2.1
  clear h hS hR hv
  go_enter Try.func30, Try.ntmps30
  go_upto_region 1 with fail
  have hb := (Below.refl w.heap.size w).alloc (Nat.le_refl _) (.cells #[.int .i64 C.ver, .int .i64 C.nxt, .slice a C.tabs.length c, .slice a' C.idxs.length c'] 25)
  have hz := heap_alloc_new w (.cells #[.int .i64 C.ver, .int .i64 C.nxt, .slice a C.tabs.length c, .slice a' C.idxs.length c'] 25)
  have hsz : (w.alloc (.cells #[.int .i64 C.ver, .int .i64 C.nxt, .slice a C.tabs.length c, .slice a' C.idxs.length c'] 25)).heap.size = w.heap.size + 1 := by simp
  generalize w.alloc (.cells #[.int .i64 C.ver, .int .i64 C.nxt, .slice a C.tabs.length c, .slice a' C.idxs.length c'] 25) = w1 at *
  have hz2 := heap_alloc_new w1 (.cells #[.int .i64 0, .int .i64 0, .slice none 0 0, .slice none 0 0] 25)
  have hb2 := hb.alloc hb.size (.cells #[.int .i64 0, .int .i64 0, .slice none 0 0, .slice none 0 0] 25)
  have hzk := (((Below.refl _ w1).alloc (Nat.le_refl _) (.cells #[.int .i64 0, .int .i64 0, .slice none 0 0, .slice none 0 0] 25)).block _ (lt_of_block hz)).trans hz
  have hsz2 : (w1.alloc (.cells #[.int .i64 0, .int .i64 0, .slice none 0 0, .slice none 0 0] 25)).heap.size = w.heap.size + 2 := by simp [hsz]
  rw [hsz] at hz2
  generalize w1.alloc (.cells #[.int .i64 0, .int .i64 0, .slice none 0 0, .slice none 0 0] 25) = w3 at *
  have HB3 := hid hb2
  have HZ3 := hid hzk
  have HR3 := hid hz2
  have HSZ : Hid (w.heap.size + 2 = w3.heap.size) := hid hsz2.symm
  clear hz hz2 hb hb2 hzk hsz hsz2
  have z0 := cell_in HZ3.out 0 _ rfl
  have z1 := cell_in HZ3.out 1 _ rfl
  have z2 := cell_in HZ3.out 2 _ rfl
  have z3 := cell_in HZ3.out 3 _ rfl
  have CC := hid (copied_any (HH.out.old HB3.out) HS.out)
  go_upto_region 2 with (first | (go_at_call 106; refine CC.out.mono ?_; rintro en w4 ⟨vs, rfl, hb4, hc4⟩; have HC4 := hid hc4; obtain ⟨vx, vy, rfl, ho1, ho2, -⟩ := hc4; obtain ⟨sa, sc, rfl⟩ := own_form ho1; obtain ⟨ka, kc, rfl⟩ := own_form ho2; have HB34 := hid hb4.size; have HB4 := hid (below_step HB3.out hb4); have HZ4 := hid ((hb4.block _ (lt_of_block HZ3.out)).trans HZ3.out); have HR4 := hid ((hb4.block _ (lt_of_block HR3.out)).trans HR3.out); clear hb4 ho1 ho2 z0 z1 z2 z3; have z0 := cell_in HZ4.out 0 _ rfl; have z1 := cell_in HZ4.out 1 _ rfl; have z2 := cell_in HZ4.out 2 _ rfl; have z3 := cell_in HZ4.out 3 _ rfl; have z0f := free_in HZ4.out 0; have z1f := free_in HZ4.out 1; have z2f := free_in HZ4.out 2; have z3f := free_in HZ4.out 3))
  obtain ⟨pz, pk⟩ := put4 HZ4.out (.int .i64 C.ver) (.int .i64 C.nxt) (.slice sa C.tabs.length sc) (.slice ka C.idxs.length kc)
  generalize (((w4.setCell ⟨w.heap.size, 0, none⟩ (.int .i64 C.ver)).setCell ⟨w.heap.size, 1, none⟩ (.int .i64 C.nxt)).setCell ⟨w.heap.size, 2, none⟩ (.slice sa C.tabs.length sc)).setCell ⟨w.heap.size, 3, none⟩ (.slice ka C.idxs.length kc) = w5 at *
  have HZ5 := hid pz
  have HK5 := hid pk
  clear pz pk z0 z1 z2 z3 z0f z1f z2f z3f
  have HR5 := hid ((HK5.out.block _ (lt_of_block HR4.out) (fun e => by have e9 : w.heap.size + 1 = w.heap.size := e; omega)).trans HR4.out)
  have HC5 := hid (HC4.out.keep HK5.out (fun k e => by have e9 : k = w.heap.size := e; have := HSZ.out; omega))
  have HB5 : Hid (Below w.heap.size w w5) := hid (HB4.out.trans (HK5.out.below HB4.out.size (fun k e => by have e9 : k = w.heap.size := e; omega)))
  have z0 := cell_in HZ5.out 0 _ rfl
  have z0f := free_in HZ5.out 0
  have z1 := cell_in HZ5.out 1 _ rfl
  have z1f := free_in HZ5.out 1
  have z2 := cell_in HZ5.out 2 _ rfl
  have z2f := free_in HZ5.out 2
  have z3 := cell_in HZ5.out 3 _ rfl
  have z3f := free_in HZ5.out 3
  have r0 := cell_in HR5.out 0 _ rfl
  have r0f := free_in HR5.out 0
  have r1 := cell_in HR5.out 1 _ rfl
  have r1f := free_in HR5.out 1
  have r2 := cell_in HR5.out 2 _ rfl
  have r2f := free_in HR5.out 2
  have r3 := cell_in HR5.out 3 _ rfl
  have r3f := free_in HR5.out 3
  have CIA := hid (indexAt_any HC5.out.cat s)
  have FC := fidx_cases (fun q => decide (q.name = s)) C.idxs
  rcases FC with ⟨f1, f2, -⟩ | ⟨m, x, f1, f2, f3, f4, f5⟩
  case inl =>
    have HD : Hid (dropM C s = (C, 5)) := hid (by unfold dropM; rw [f2])
    rw [f1] at CIA
    clear f1 f2
    go_wp2_with (first | (go_at_call 103; refine CIA.out.mono ?_; rintro en w6 ⟨rfl, hb6⟩; have HSS6 := hid hb6.size; have HB6 := hid (below_step HB5.out hb6); have HZ6 := hid ((hb6.block _ (lt_of_block HZ5.out)).trans HZ5.out); have HR6 := hid ((hb6.block _ (lt_of_block HR5.out)).trans HR5.out); have HC6 := hid (HC5.out.keep (Keep.of_below (X := fun _ => False) hb6) (fun _ e => e.elim)); clear z0 z0f z1 z1f z2 z2f z3 z3f r0 r0f r1 r1f r2 r2f r3 r3f; have z0 := cell_in HZ6.out 0 _ rfl; have z0f := free_in HZ6.out 0; have z1 := cell_in HZ6.out 1 _ rfl; have z1f := free_in HZ6.out 1; have z2 := cell_in HZ6.out 2 _ rfl; have z2f := free_in HZ6.out 2; have z3 := cell_in HZ6.out 3 _ rfl; have z3f := free_in HZ6.out 3; have r0 := cell_in HR6.out 0 _ rfl; have r0f := free_in HR6.out 0; have r1 := cell_in HR6.out 1 _ rfl; have r1f := free_in HR6.out 1; have r2 := cell_in HR6.out 2 _ rfl; have r2f := free_in HR6.out 2; have r3 := cell_in HR6.out 3 _ rfl; have r3f := free_in HR6.out 3; clear hb6))
    obtain ⟨p1, p2⟩ := put4 HR6.out (.int .i64 C.ver) (.int .i64 C.nxt) (.slice sa C.tabs.length sc) (.slice ka C.idxs.length kc)
    generalize (((w6.setCell ⟨w.heap.size + 1, 0, none⟩ (.int .i64 C.ver)).setCell ⟨w.heap.size + 1, 1, none⟩ (.int .i64 C.nxt)).setCell ⟨w.heap.size + 1, 2, none⟩ (.slice sa C.tabs.length sc)).setCell ⟨w.heap.size + 1, 3, none⟩ (.slice ka C.idxs.length kc) = s4 at *
    refine bodyPost_ret (results_cell2 rfl _ _ (w.heap.size + 1) 25 _ (0, 0) _ rfl p1 Try.underlying25 rfl (by kernel_rfl)) rfl ?_
    have e1 := HSZ.out
    have e2 := HB6.out.size
    have e3 := p2.size
    rw [HD.out]
    exact ⟨_, rfl, HB6.out.trans (p2.below (by omega) (fun k e => by have e8 : k = w.heap.size + 1 := e; omega)), (HC6.out.keep p2 (fun k e => by have e8 : k = w.heap.size + 1 := e; omega)).cat.mono (fun k e => ⟨by have := e.1; omega, e.2⟩)⟩
  have hm0 : ¬ (m : Int) < 0 := by omega
  have HF3 := hid f3
  have HF2 := hid f2
  rw [f1] at CIA
  have hmi : (m : Int) < (C.idxs.length : Int) := by have := (List.getElem?_eq_some_iff.1 f2).1; omega
  clear f1 f2 f3 f4 f5
  go_upto_region 5 with (first | (go_at_call 103; refine CIA.out.mono ?_; rintro en w6 ⟨rfl, hb6⟩; have HSS6 := hid hb6.size; have HB6 := hid (below_step HB5.out hb6); have HZ6 := hid ((hb6.block _ (lt_of_block HZ5.out)).trans HZ5.out); have HR6 := hid ((hb6.block _ (lt_of_block HR5.out)).trans HR5.out); have HC6 := hid (HC5.out.keep (Keep.of_below (X := fun _ => False) hb6) (fun _ e => e.elim)); clear z0 z0f z1 z1f z2 z2f z3 z3f r0 r0f r1 r1f r2 r2f r3 r3f; have z0 := cell_in HZ6.out 0 _ rfl; have z0f := free_in HZ6.out 0; have z1 := cell_in HZ6.out 1 _ rfl; have z1f := free_in HZ6.out 1; have z2 := cell_in HZ6.out 2 _ rfl; have z2f := free_in HZ6.out 2; have z3 := cell_in HZ6.out 3 _ rfl; have z3f := free_in HZ6.out 3; have r0 := cell_in HR6.out 0 _ rfl; have r0f := free_in HR6.out 0; have r1 := cell_in HR6.out 1 _ rfl; have r1f := free_in HR6.out 1; have r2 := cell_in HR6.out 2 _ rfl; have r2f := free_in HR6.out 2; have r3 := cell_in HR6.out 3 _ rfl; have r3f := free_in HR6.out 3; clear hb6))
  obtain ⟨g, goff, xa, xc, hka, hxN, c0, c1, c2, c3, c4, c5, c6⟩ : ∃ g goff xa xc, ka = some ⟨g, goff, none⟩ ∧ IdxN (fun k => w3.heap.size ≤ k ∧ k < w6.heap.size) w6 [.int .i64 x.id, .int .i64 x.table, .string ⟨x.name.toArray⟩, .slice xa x.cols.length xc, .bool x.uniq, .int .i64 x.state, .bool x.bad] x ∧ w6.cell? ⟨g, goff + m * 7, none⟩ = some (.int .i64 x.id) ∧ w6.cell? ⟨g, goff + m * 7 + 1, none⟩ = some (.int .i64 x.table) ∧ w6.cell? ⟨g, goff + m * 7 + 2, none⟩ = some (.string ⟨x.name.toArray⟩) ∧ w6.cell? ⟨g, goff + m * 7 + 3, none⟩ = some (.slice xa x.cols.length xc) ∧ w6.cell? ⟨g, goff + m * 7 + 4, none⟩ = some (.bool x.uniq) ∧ w6.cell? ⟨g, goff + m * 7 + 5, none⟩ = some (.int .i64 x.state) ∧ w6.cell? ⟨g, goff + m * 7 + 6, none⟩ = some (.bool x.bad) := by
    obtain ⟨vx, vy, e9, -, ho2, -, -⟩ := HC6.out.cat
    simp only [List.cons.injEq, and_true, true_and] at e9
    obtain ⟨rfl, rfl⟩ := e9
    obtain ⟨ao9, c9, e8, -, -, hc9⟩ := ix_cells ho2
    obtain ⟨b9, o9, q1, q2, e7, r1, r2⟩ := hc9 m x HF2.out
    simp only [Value.slice.injEq] at e8
    exact ⟨b9, o9, q1, q2, by rw [e8.1, e7], r1, r2⟩
  subst hka
  have HST := hid ((catB_ids HCR.out).2 x (List.mem_of_getElem? HF2.out))
  have hs1 : ¬ x.state < 1 := by have := HST.out.1; omega
  clear c0 c1 c2 c3 c4 c6 hxN
  by_cases h4 : 4 < x.state
  case pos =>
    have HD : Hid (dropM C s = (C, 7)) := hid (by unfold dropM; rw [HF3.out]; exact if_pos h4)
    go_wp2_with fail
    obtain ⟨p1, p2⟩ := put4 HR6.out (.int .i64 C.ver) (.int .i64 C.nxt) (.slice sa C.tabs.length sc) (.slice (some ⟨g, goff, none⟩) C.idxs.length kc)
    generalize (((w6.setCell ⟨w.heap.size + 1, 0, none⟩ (.int .i64 C.ver)).setCell ⟨w.heap.size + 1, 1, none⟩ (.int .i64 C.nxt)).setCell ⟨w.heap.size + 1, 2, none⟩ (.slice sa C.tabs.length sc)).setCell ⟨w.heap.size + 1, 3, none⟩ (.slice (some ⟨g, goff, none⟩) C.idxs.length kc) = s4 at *
    refine bodyPost_ret (results_cell2 rfl _ _ (w.heap.size + 1) 25 _ (0, 0) _ rfl p1 Try.underlying25 rfl (by kernel_rfl)) rfl ?_
    have e1 := HSZ.out
    have e2 := HB6.out.size
    have e3 := p2.size
    rw [HD.out]
    exact ⟨_, rfl, HB6.out.trans (p2.below (by omega) (fun k e => by have e8 : k = w.heap.size + 1 := e; omega)), (HC6.out.keep p2 (fun k e => by have e8 : k = w.heap.size + 1 := e; omega)).cat.mono (fun k e => ⟨by have := e.1; omega, e.2⟩)⟩
  by_cases h5 : x.state = 4
  case pos =>
    have HD : Hid (dropM C s = (setM C x.id 5 (false || x.bad), 0)) := hid (by unfold dropM; rw [HF3.out]; show (if 4 < x.state then (C, 7) else (setM C x.id (if x.state = 4 then 5 else 6) x.bad, 0)) = _; rw [if_neg h4, if_pos h5, Bool.false_or])
    have hs4 : (x.state == 4) = true := by simp [h5]
    clear h5
    have CM := hid (moved_any HC6.out (by have := HB34.out; have := HK5.out.size; have := HSS6.out; omega) HV.out m x HF2.out hil 5 false)
    generalize hmv : movedM C m 5 false x = C9 at *
    have HMV := hid hmv
    clear hmv
    go_wp2_with (first | (go_at_call 109; refine CM.out.mono ?_; rintro en wM ⟨vs, rfl, hbM, hcM⟩; obtain ⟨f1, q1, f2, q2, rfl⟩ := cat_form hcM; have HBM := hid hbM; have HCM := hid hcM; have HRM := hid ((hbM.block _ (by have := HSZ.out; omega)).trans HR6.out); clear hbM hcM z0 z0f z1 z1f z2 z2f z3 z3f r0 r0f r1 r1f r2 r2f r3 r3f; have r0 := cell_in HRM.out 0 _ rfl; have r0f := free_in HRM.out 0; have r1 := cell_in HRM.out 1 _ rfl; have r1f := free_in HRM.out 1; have r2 := cell_in HRM.out 2 _ rfl; have r2f := free_in HRM.out 2; have r3 := cell_in HRM.out 3 _ rfl; have r3f := free_in HRM.out 3))
    obtain ⟨p1, p2⟩ := put4 HRM.out (.int .i64 C9.ver) (.int .i64 C9.nxt) (.slice f1 C9.tabs.length q1) (.slice f2 C9.idxs.length q2)
    generalize (((wM.setCell ⟨w.heap.size + 1, 0, none⟩ (.int .i64 C9.ver)).setCell ⟨w.heap.size + 1, 1, none⟩ (.int .i64 C9.nxt)).setCell ⟨w.heap.size + 1, 2, none⟩ (.slice f1 C9.tabs.length q1)).setCell ⟨w.heap.size + 1, 3, none⟩ (.slice f2 C9.idxs.length q2) = s4 at *
    refine bodyPost_ret (results_cell2 rfl _ _ (w.heap.size + 1) 25 _ (0, 0) _ rfl p1 Try.underlying25 rfl (by kernel_rfl)) rfl ?_
    have e1 := HSZ.out
    have e2 := HB6.out.size
    have e3 := p2.size
    have e4 := HBM.out.size
    rw [HD.out, ← moved_set HCR.out HF2.out, HMV.out]
    exact ⟨_, rfl, (HB6.out.trans (HBM.out.mono (by omega))).trans (p2.below (by omega) (fun k e => by have e8 : k = w.heap.size + 1 := e; omega)), (HCM.out.keep p2 (fun k e e9 => by have e8 : k = w.heap.size + 1 := e9; have := e.1; omega)).mono (fun k e => ⟨by have := e.1; omega, by have := e.2; omega⟩)⟩
  case neg =>
    have HD : Hid (dropM C s = (setM C x.id 6 (false || x.bad), 0)) := hid (by unfold dropM; rw [HF3.out]; show (if 4 < x.state then (C, 7) else (setM C x.id (if x.state = 4 then 5 else 6) x.bad, 0)) = _; rw [if_neg h4, if_neg h5, Bool.false_or])
    have hs4 : (x.state == 4) = false := by simp [h5]
    clear h5
    have CM := hid (moved_any HC6.out (by have := HB34.out; have := HK5.out.size; have := HSS6.out; omega) HV.out m x HF2.out hil 6 false)
    generalize hmv : movedM C m 6 false x = C9 at *
    have HMV := hid hmv
    clear hmv
    go_wp2_with (first | (go_at_call 109; refine CM.out.mono ?_; rintro en wM ⟨vs, rfl, hbM, hcM⟩; obtain ⟨f1, q1, f2, q2, rfl⟩ := cat_form hcM; have HBM := hid hbM; have HCM := hid hcM; have HRM := hid ((hbM.block _ (by have := HSZ.out; omega)).trans HR6.out); clear hbM hcM z0 z0f z1 z1f z2 z2f z3 z3f r0 r0f r1 r1f r2 r2f r3 r3f; have r0 := cell_in HRM.out 0 _ rfl; have r0f := free_in HRM.out 0; have r1 := cell_in HRM.out 1 _ rfl; have r1f := free_in HRM.out 1; have r2 := cell_in HRM.out 2 _ rfl; have r2f := free_in HRM.out 2; have r3 := cell_in HRM.out 3 _ rfl; have r3f := free_in HRM.out 3))
    obtain ⟨p1, p2⟩ := put4 HRM.out (.int .i64 C9.ver) (.int .i64 C9.nxt) (.slice f1 C9.tabs.length q1) (.slice f2 C9.idxs.length q2)
    generalize (((wM.setCell ⟨w.heap.size + 1, 0, none⟩ (.int .i64 C9.ver)).setCell ⟨w.heap.size + 1, 1, none⟩ (.int .i64 C9.nxt)).setCell ⟨w.heap.size + 1, 2, none⟩ (.slice f1 C9.tabs.length q1)).setCell ⟨w.heap.size + 1, 3, none⟩ (.slice f2 C9.idxs.length q2) = s4 at *
    refine bodyPost_ret (results_cell2 rfl _ _ (w.heap.size + 1) 25 _ (0, 0) _ rfl p1 Try.underlying25 rfl (by kernel_rfl)) rfl ?_
    have e1 := HSZ.out
    have e2 := HB6.out.size
    have e3 := p2.size
    have e4 := HBM.out.size
    rw [HD.out, ← moved_set HCR.out HF2.out, HMV.out]
    exact ⟨_, rfl, (HB6.out.trans (HBM.out.mono (by omega))).trans (p2.below (by omega) (fun k e => by have e8 : k = w.heap.size + 1 := e; omega)), (HCM.out.keep p2 (fun k e e9 => by have e8 : k = w.heap.size + 1 := e9; have := e.1; omega)).mono (fun k e => ⟨by have := e.1; omega, by have := e.2; omega⟩)⟩

set_option maxHeartbeats 16000000 in
theorem step_any {N : Nat → Prop} {w : World} {cs : List Value} {C : Cat} (h : CatN N w cs C) (hS : C.S) (hv : -9223372036854775808 ≤ C.ver ∧ C.ver < 9223372036854775807) (hR : catB C = true) (id fr st : Int) (bad : Bool) :
    Calls Try.prog 31 #[.agg cs.toArray, .int .i64 id, .int .i64 fr, .int .i64 st, .bool bad] w (ChN w (stepM C id fr st bad)) := by
  have HH := hid h
  obtain ⟨a, c, a', c', rfl, -, -, hl1, hl2⟩ := cat_open h
  have HS := hid hS
  have HV := hid hv
  have HCR := hid hR
  have hil : C.idxs.length ≤ 100 := hS.2.1
  clear h hS hR hv
  go_enter Try.func31, Try.ntmps31
  go_upto_region 1 with fail
  have hb := (Below.refl w.heap.size w).alloc (Nat.le_refl _) (.cells #[.int .i64 C.ver, .int .i64 C.nxt, .slice a C.tabs.length c, .slice a' C.idxs.length c'] 25)
  have hz := heap_alloc_new w (.cells #[.int .i64 C.ver, .int .i64 C.nxt, .slice a C.tabs.length c, .slice a' C.idxs.length c'] 25)
  have hsz : (w.alloc (.cells #[.int .i64 C.ver, .int .i64 C.nxt, .slice a C.tabs.length c, .slice a' C.idxs.length c'] 25)).heap.size = w.heap.size + 1 := by simp
  generalize w.alloc (.cells #[.int .i64 C.ver, .int .i64 C.nxt, .slice a C.tabs.length c, .slice a' C.idxs.length c'] 25) = w1 at *
  have hz2 := heap_alloc_new w1 (.cells #[.int .i64 id] 3)
  have hb2 := hb.alloc hb.size (.cells #[.int .i64 id] 3)
  have hzk := (((Below.refl _ w1).alloc (Nat.le_refl _) (.cells #[.int .i64 id] 3)).block _ (lt_of_block hz)).trans hz
  have hsz2 : (w1.alloc (.cells #[.int .i64 id] 3)).heap.size = w.heap.size + 2 := by simp [hsz]
  rw [hsz] at hz2
  generalize w1.alloc (.cells #[.int .i64 id] 3) = w2 at *
  have hz3 := heap_alloc_new w2 (.cells #[.int .i64 0, .int .i64 0, .slice none 0 0, .slice none 0 0] 25)
  have hb3 := hb2.alloc hb2.size (.cells #[.int .i64 0, .int .i64 0, .slice none 0 0, .slice none 0 0] 25)
  have hzk2 := (((Below.refl _ w2).alloc (Nat.le_refl _) (.cells #[.int .i64 0, .int .i64 0, .slice none 0 0, .slice none 0 0] 25)).block _ (lt_of_block hzk)).trans hzk
  have hzi2 := (((Below.refl _ w2).alloc (Nat.le_refl _) (.cells #[.int .i64 0, .int .i64 0, .slice none 0 0, .slice none 0 0] 25)).block _ (lt_of_block hz2)).trans hz2
  have hsz3 : (w2.alloc (.cells #[.int .i64 0, .int .i64 0, .slice none 0 0, .slice none 0 0] 25)).heap.size = w.heap.size + 3 := by simp [hsz2]
  rw [hsz2] at hz3
  generalize w2.alloc (.cells #[.int .i64 0, .int .i64 0, .slice none 0 0, .slice none 0 0] 25) = w3 at *
  have HB3 := hid hb3
  have HZ3 := hid hzk2
  have HI3 := hid hzi2
  have HR3 := hid hz3
  have HSZ : Hid (w.heap.size + 3 = w3.heap.size) := hid hsz3.symm
  clear hz hz2 hz3 hb hb2 hb3 hzk hzk2 hzi2 hsz hsz2 hsz3
  have z0 := cell_in HZ3.out 0 _ rfl
  have z1 := cell_in HZ3.out 1 _ rfl
  have z2 := cell_in HZ3.out 2 _ rfl
  have z3 := cell_in HZ3.out 3 _ rfl
  have CC := hid (copied_any (HH.out.old HB3.out) HS.out)
  go_upto_region 2 with (first | (go_at_call 106; refine CC.out.mono ?_; rintro en w4 ⟨vs, rfl, hb4, hc4⟩; have HC4 := hid hc4; obtain ⟨vx, vy, rfl, ho1, ho2, -⟩ := hc4; obtain ⟨sa, sc, rfl⟩ := own_form ho1; obtain ⟨ka, kc, rfl⟩ := own_form ho2; have HB34 := hid hb4.size; have HB4 := hid (below_step HB3.out hb4); have HZ4 := hid ((hb4.block _ (lt_of_block HZ3.out)).trans HZ3.out); have HR4 := hid ((hb4.block _ (lt_of_block HR3.out)).trans HR3.out); have HI4 := hid ((hb4.block _ (lt_of_block HI3.out)).trans HI3.out); clear hb4 ho1 ho2 z0 z1 z2 z3; have z0 := cell_in HZ4.out 0 _ rfl; have z1 := cell_in HZ4.out 1 _ rfl; have z2 := cell_in HZ4.out 2 _ rfl; have z3 := cell_in HZ4.out 3 _ rfl; have z0f := free_in HZ4.out 0; have z1f := free_in HZ4.out 1; have z2f := free_in HZ4.out 2; have z3f := free_in HZ4.out 3))
  obtain ⟨pz, pk⟩ := put4 HZ4.out (.int .i64 C.ver) (.int .i64 C.nxt) (.slice sa C.tabs.length sc) (.slice ka C.idxs.length kc)
  generalize (((w4.setCell ⟨w.heap.size, 0, none⟩ (.int .i64 C.ver)).setCell ⟨w.heap.size, 1, none⟩ (.int .i64 C.nxt)).setCell ⟨w.heap.size, 2, none⟩ (.slice sa C.tabs.length sc)).setCell ⟨w.heap.size, 3, none⟩ (.slice ka C.idxs.length kc) = w5 at *
  have HZ5 := hid pz
  have HK5 := hid pk
  clear pz pk z0 z1 z2 z3 z0f z1f z2f z3f
  have HR5 := hid ((HK5.out.block _ (lt_of_block HR4.out) (fun e => by have e9 : w.heap.size + 2 = w.heap.size := e; omega)).trans HR4.out)
  have HC5 := hid (HC4.out.keep HK5.out (fun k e => by have e9 : k = w.heap.size := e; have := HSZ.out; omega))
  have HB5 : Hid (Below w.heap.size w w5) := hid (HB4.out.trans (HK5.out.below HB4.out.size (fun k e => by have e9 : k = w.heap.size := e; omega)))
  have HI5 := hid ((HK5.out.block _ (lt_of_block HI4.out) (fun e => by have e9 : w.heap.size + 1 = w.heap.size := e; omega)).trans HI4.out)
  have i0 := cell_in HI5.out 0 _ rfl
  have z0 := cell_in HZ5.out 0 _ rfl
  have z0f := free_in HZ5.out 0
  have z1 := cell_in HZ5.out 1 _ rfl
  have z1f := free_in HZ5.out 1
  have z2 := cell_in HZ5.out 2 _ rfl
  have z2f := free_in HZ5.out 2
  have z3 := cell_in HZ5.out 3 _ rfl
  have z3f := free_in HZ5.out 3
  have r0 := cell_in HR5.out 0 _ rfl
  have r0f := free_in HR5.out 0
  have r1 := cell_in HR5.out 1 _ rfl
  have r1f := free_in HR5.out 1
  have r2 := cell_in HR5.out 2 _ rfl
  have r2f := free_in HR5.out 2
  have r3 := cell_in HR5.out 3 _ rfl
  have r3f := free_in HR5.out 3
  have CIA : Hid (Calls Try.prog 110 #[.slice ka C.idxs.length kc, .func (.func 111) #[] #[.pointer (some ⟨w.heap.size + 1, 0, none⟩)]] w5 (fun e w' => e = .returned (.int .i64 (fidx (fun t => decide (t.id = id)) C.idxs)) ∧ Below w5.heap.size w5 w')) := hid (by
    obtain ⟨vx, vy, e9, -, ho2, -, -⟩ := HC5.out.cat
    simp only [List.cons.injEq, and_true, true_and] at e9
    obtain ⟨rfl, rfl⟩ := e9
    exact StepF_any w5 ho2 id (w.heap.size + 1) i0)
  clear i0
  have FC := fidx_cases (fun q => decide (q.id = id)) C.idxs
  rcases FC with ⟨f1, f2, -⟩ | ⟨m, x, f1, f2, f3, f4, f5⟩
  case inl =>
    have HD : Hid (stepM C id fr st bad = (C, 5)) := hid (by unfold stepM; rw [f2])
    rw [f1] at CIA
    clear f1 f2
    go_wp2_with (first | (go_at_call 110; refine CIA.out.mono ?_; rintro en w6 ⟨rfl, hb6⟩; have HSS6 := hid hb6.size; have HB6 := hid (below_step HB5.out hb6); have HZ6 := hid ((hb6.block _ (lt_of_block HZ5.out)).trans HZ5.out); have HR6 := hid ((hb6.block _ (lt_of_block HR5.out)).trans HR5.out); have HC6 := hid (HC5.out.keep (Keep.of_below (X := fun _ => False) hb6) (fun _ e => e.elim)); clear z0 z0f z1 z1f z2 z2f z3 z3f r0 r0f r1 r1f r2 r2f r3 r3f; have z0 := cell_in HZ6.out 0 _ rfl; have z0f := free_in HZ6.out 0; have z1 := cell_in HZ6.out 1 _ rfl; have z1f := free_in HZ6.out 1; have z2 := cell_in HZ6.out 2 _ rfl; have z2f := free_in HZ6.out 2; have z3 := cell_in HZ6.out 3 _ rfl; have z3f := free_in HZ6.out 3; have r0 := cell_in HR6.out 0 _ rfl; have r0f := free_in HR6.out 0; have r1 := cell_in HR6.out 1 _ rfl; have r1f := free_in HR6.out 1; have r2 := cell_in HR6.out 2 _ rfl; have r2f := free_in HR6.out 2; have r3 := cell_in HR6.out 3 _ rfl; have r3f := free_in HR6.out 3; clear hb6))
    obtain ⟨p1, p2⟩ := put4 HR6.out (.int .i64 C.ver) (.int .i64 C.nxt) (.slice sa C.tabs.length sc) (.slice ka C.idxs.length kc)
    generalize (((w6.setCell ⟨w.heap.size + 2, 0, none⟩ (.int .i64 C.ver)).setCell ⟨w.heap.size + 2, 1, none⟩ (.int .i64 C.nxt)).setCell ⟨w.heap.size + 2, 2, none⟩ (.slice sa C.tabs.length sc)).setCell ⟨w.heap.size + 2, 3, none⟩ (.slice ka C.idxs.length kc) = s4 at *
    refine bodyPost_ret (results_cell2 rfl _ _ (w.heap.size + 2) 25 _ (0, 0) _ rfl p1 Try.underlying25 rfl (by kernel_rfl)) rfl ?_
    have e1 := HSZ.out
    have e2 := HB6.out.size
    have e3 := p2.size
    rw [HD.out]
    exact ⟨_, rfl, HB6.out.trans (p2.below (by omega) (fun k e => by have e8 : k = w.heap.size + 2 := e; omega)), (HC6.out.keep p2 (fun k e => by have e8 : k = w.heap.size + 2 := e; omega)).cat.mono (fun k e => ⟨by have := e.1; omega, e.2⟩)⟩
  have hm0 : ¬ (m : Int) < 0 := by omega
  have HF3 := hid f3
  have HF2 := hid f2
  have HID : Hid (x.id = id) := hid (by simpa using f4)
  rw [f1] at CIA
  have hmi : (m : Int) < (C.idxs.length : Int) := by have := (List.getElem?_eq_some_iff.1 f2).1; omega
  clear f1 f2 f3 f4 f5
  go_upto_region 5 with (first | (go_at_call 110; refine CIA.out.mono ?_; rintro en w6 ⟨rfl, hb6⟩; have HSS6 := hid hb6.size; have HB6 := hid (below_step HB5.out hb6); have HZ6 := hid ((hb6.block _ (lt_of_block HZ5.out)).trans HZ5.out); have HR6 := hid ((hb6.block _ (lt_of_block HR5.out)).trans HR5.out); have HC6 := hid (HC5.out.keep (Keep.of_below (X := fun _ => False) hb6) (fun _ e => e.elim)); clear z0 z0f z1 z1f z2 z2f z3 z3f r0 r0f r1 r1f r2 r2f r3 r3f; have z0 := cell_in HZ6.out 0 _ rfl; have z0f := free_in HZ6.out 0; have z1 := cell_in HZ6.out 1 _ rfl; have z1f := free_in HZ6.out 1; have z2 := cell_in HZ6.out 2 _ rfl; have z2f := free_in HZ6.out 2; have z3 := cell_in HZ6.out 3 _ rfl; have z3f := free_in HZ6.out 3; have r0 := cell_in HR6.out 0 _ rfl; have r0f := free_in HR6.out 0; have r1 := cell_in HR6.out 1 _ rfl; have r1f := free_in HR6.out 1; have r2 := cell_in HR6.out 2 _ rfl; have r2f := free_in HR6.out 2; have r3 := cell_in HR6.out 3 _ rfl; have r3f := free_in HR6.out 3; clear hb6))
  obtain ⟨g, goff, xa, xc, hka, hxN, c0, c1, c2, c3, c4, c5, c6⟩ : ∃ g goff xa xc, ka = some ⟨g, goff, none⟩ ∧ IdxN (fun k => w3.heap.size ≤ k ∧ k < w6.heap.size) w6 [.int .i64 x.id, .int .i64 x.table, .string ⟨x.name.toArray⟩, .slice xa x.cols.length xc, .bool x.uniq, .int .i64 x.state, .bool x.bad] x ∧ w6.cell? ⟨g, goff + m * 7, none⟩ = some (.int .i64 x.id) ∧ w6.cell? ⟨g, goff + m * 7 + 1, none⟩ = some (.int .i64 x.table) ∧ w6.cell? ⟨g, goff + m * 7 + 2, none⟩ = some (.string ⟨x.name.toArray⟩) ∧ w6.cell? ⟨g, goff + m * 7 + 3, none⟩ = some (.slice xa x.cols.length xc) ∧ w6.cell? ⟨g, goff + m * 7 + 4, none⟩ = some (.bool x.uniq) ∧ w6.cell? ⟨g, goff + m * 7 + 5, none⟩ = some (.int .i64 x.state) ∧ w6.cell? ⟨g, goff + m * 7 + 6, none⟩ = some (.bool x.bad) := by
    obtain ⟨vx, vy, e9, -, ho2, -, -⟩ := HC6.out.cat
    simp only [List.cons.injEq, and_true, true_and] at e9
    obtain ⟨rfl, rfl⟩ := e9
    obtain ⟨ao9, c9, e8, -, -, hc9⟩ := ix_cells ho2
    obtain ⟨b9, o9, q1, q2, e7, r1, r2⟩ := hc9 m x HF2.out
    simp only [Value.slice.injEq] at e8
    exact ⟨b9, o9, q1, q2, by rw [e8.1, e7], r1, r2⟩
  subst hka
  have CL7 := hid (leads_any w6 x xa xc fr st bad)
  clear hxN
  cases hsb : stepBad x fr st bad with
  | true =>
    have HD : Hid (stepM C id fr st bad = (C, 7)) := hid (by unfold stepM; rw [HF3.out]; exact if_pos hsb)
    rw [hsb] at CL7
    clear hsb
    go_wp2_with (first | (go_at_call 112; refine CL7.out.mono ?_; rintro en w7 ⟨rfl, hb7⟩; clear c0 c1 c2 c3 c4 c5 c6; have HSS7 := hid hb7.size; have HB7 := hid (below_step HB6.out hb7); have HZ7 := hid ((hb7.block _ (lt_of_block HZ6.out)).trans HZ6.out); have HR7 := hid ((hb7.block _ (lt_of_block HR6.out)).trans HR6.out); have HC7 := hid (HC6.out.keep (Keep.of_below (X := fun _ => False) hb7) (fun _ e => e.elim)); clear z0 z0f z1 z1f z2 z2f z3 z3f r0 r0f r1 r1f r2 r2f r3 r3f; have z0 := cell_in HZ7.out 0 _ rfl; have z0f := free_in HZ7.out 0; have z1 := cell_in HZ7.out 1 _ rfl; have z1f := free_in HZ7.out 1; have z2 := cell_in HZ7.out 2 _ rfl; have z2f := free_in HZ7.out 2; have z3 := cell_in HZ7.out 3 _ rfl; have z3f := free_in HZ7.out 3; have r0 := cell_in HR7.out 0 _ rfl; have r0f := free_in HR7.out 0; have r1 := cell_in HR7.out 1 _ rfl; have r1f := free_in HR7.out 1; have r2 := cell_in HR7.out 2 _ rfl; have r2f := free_in HR7.out 2; have r3 := cell_in HR7.out 3 _ rfl; have r3f := free_in HR7.out 3; clear hb7))
    obtain ⟨p1, p2⟩ := put4 HR7.out (.int .i64 C.ver) (.int .i64 C.nxt) (.slice sa C.tabs.length sc) (.slice (some ⟨g, goff, none⟩) C.idxs.length kc)
    generalize (((w7.setCell ⟨w.heap.size + 2, 0, none⟩ (.int .i64 C.ver)).setCell ⟨w.heap.size + 2, 1, none⟩ (.int .i64 C.nxt)).setCell ⟨w.heap.size + 2, 2, none⟩ (.slice sa C.tabs.length sc)).setCell ⟨w.heap.size + 2, 3, none⟩ (.slice (some ⟨g, goff, none⟩) C.idxs.length kc) = s4 at *
    refine bodyPost_ret (results_cell2 rfl _ _ (w.heap.size + 2) 25 _ (0, 0) _ rfl p1 Try.underlying25 rfl (by kernel_rfl)) rfl ?_
    have e1 := HSZ.out
    have e2 := HB7.out.size
    have e3 := p2.size
    rw [HD.out]
    exact ⟨_, rfl, HB7.out.trans (p2.below (by omega) (fun k e => by have e8 : k = w.heap.size + 2 := e; omega)), (HC7.out.keep p2 (fun k e => by have e8 : k = w.heap.size + 2 := e; omega)).cat.mono (fun k e => ⟨by have := e.1; omega, e.2⟩)⟩
  | false =>
    have HD : Hid (stepM C id fr st bad = (setM C x.id st (bad || x.bad), 0)) := hid (by unfold stepM; rw [HF3.out, HID.out]; exact if_neg (by rw [hsb]; decide))
    rw [hsb] at CL7
    clear hsb
    go_upto_region 7 with (first | (go_at_call 112; refine CL7.out.mono ?_; rintro en w7 ⟨rfl, hb7⟩; clear c0 c1 c2 c3 c4 c5 c6; have HSS7 := hid hb7.size; have HB7 := hid (below_step HB6.out hb7); have HZ7 := hid ((hb7.block _ (lt_of_block HZ6.out)).trans HZ6.out); have HR7 := hid ((hb7.block _ (lt_of_block HR6.out)).trans HR6.out); have HC7 := hid (HC6.out.keep (Keep.of_below (X := fun _ => False) hb7) (fun _ e => e.elim)); clear z0 z0f z1 z1f z2 z2f z3 z3f r0 r0f r1 r1f r2 r2f r3 r3f; have z0 := cell_in HZ7.out 0 _ rfl; have z0f := free_in HZ7.out 0; have z1 := cell_in HZ7.out 1 _ rfl; have z1f := free_in HZ7.out 1; have z2 := cell_in HZ7.out 2 _ rfl; have z2f := free_in HZ7.out 2; have z3 := cell_in HZ7.out 3 _ rfl; have z3f := free_in HZ7.out 3; have r0 := cell_in HR7.out 0 _ rfl; have r0f := free_in HR7.out 0; have r1 := cell_in HR7.out 1 _ rfl; have r1f := free_in HR7.out 1; have r2 := cell_in HR7.out 2 _ rfl; have r2f := free_in HR7.out 2; have r3 := cell_in HR7.out 3 _ rfl; have r3f := free_in HR7.out 3; clear hb7))
    have CM := hid (moved_any HC7.out (by have := HB34.out; have := HK5.out.size; have := HSS6.out; have := HSS7.out; omega) HV.out m x HF2.out hil st bad)
    generalize hmv : movedM C m st bad x = C9 at *
    have HMV := hid hmv
    clear hmv
    go_wp2_with (first | (go_at_call 109; refine CM.out.mono ?_; rintro en wM ⟨vs, rfl, hbM, hcM⟩; obtain ⟨f1, q1, f2, q2, rfl⟩ := cat_form hcM; have HBM := hid hbM; have HCM := hid hcM; have HRM := hid ((hbM.block _ (by have := HSZ.out; omega)).trans HR7.out); clear hbM hcM z0 z0f z1 z1f z2 z2f z3 z3f r0 r0f r1 r1f r2 r2f r3 r3f; have r0 := cell_in HRM.out 0 _ rfl; have r0f := free_in HRM.out 0; have r1 := cell_in HRM.out 1 _ rfl; have r1f := free_in HRM.out 1; have r2 := cell_in HRM.out 2 _ rfl; have r2f := free_in HRM.out 2; have r3 := cell_in HRM.out 3 _ rfl; have r3f := free_in HRM.out 3))
    obtain ⟨p1, p2⟩ := put4 HRM.out (.int .i64 C9.ver) (.int .i64 C9.nxt) (.slice f1 C9.tabs.length q1) (.slice f2 C9.idxs.length q2)
    generalize (((wM.setCell ⟨w.heap.size + 2, 0, none⟩ (.int .i64 C9.ver)).setCell ⟨w.heap.size + 2, 1, none⟩ (.int .i64 C9.nxt)).setCell ⟨w.heap.size + 2, 2, none⟩ (.slice f1 C9.tabs.length q1)).setCell ⟨w.heap.size + 2, 3, none⟩ (.slice f2 C9.idxs.length q2) = s4 at *
    refine bodyPost_ret (results_cell2 rfl _ _ (w.heap.size + 2) 25 _ (0, 0) _ rfl p1 Try.underlying25 rfl (by kernel_rfl)) rfl ?_
    have e1 := HSZ.out
    have e2 := HB7.out.size
    have e3 := p2.size
    have e4 := HBM.out.size
    rw [HD.out, ← moved_set HCR.out HF2.out, HMV.out]
    exact ⟨_, rfl, (HB7.out.trans (HBM.out.mono (by omega))).trans (p2.below (by omega) (fun k e => by have e8 : k = w.heap.size + 2 := e; omega)), (HCM.out.keep p2 (fun k e e9 => by have e8 : k = w.heap.size + 2 := e9; have := e.1; omega)).mono (fun k e => ⟨by have := e.1; omega, by have := e.2; omega⟩)⟩
end Go.Proofs.Ytafcbelkhhjcoaa
