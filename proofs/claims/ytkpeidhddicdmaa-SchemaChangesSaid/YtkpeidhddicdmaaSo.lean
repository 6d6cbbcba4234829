/-
  LAYER 12, THE DOCUMENT's: AddIndex. (Made by src2/gen_saddx.py.)
-/
import Derived.Test.YtkpeidhddicdmaaSn
set_option linter.unusedVariables false
set_option linter.unusedSimpArgs false
set_option maxRecDepth 100000
namespace Go.Proofs.Ytkpeidhddicdmaa
open Go.RowKit Go.Deep

def addIdx (C : Cat) (id : Int) (x : Idx) : Cat := { C with ver := C.ver + 1, nxt := C.nxt + 1, idxs := C.idxs ++ [⟨C.nxt, id, x.name, x.cols, x.uniq, 1, false⟩] }
def addIndexM (C : Cat) (x : Idx) (s : List UInt8) : Cat × Int :=
  match C.tabs.find? (fun q => decide (q.name = s)) with
  | none => (C, 5)
  | some t => if (nameB x.name && placesB x.cols t.cols.length) = false then (C, 9) else if (C.idxs.find? fun q => decide (q.name = x.name)).isSome = true then (C, 6)
    else if 10 ≤ C.idxs.length ∨ 1073741824 ≤ C.nxt then (C, 4) else (addIdx C t.id x, 0)

set_option maxHeartbeats 8000000 in
theorem rAddIndex_any {N Nx : Nat → Prop} {w : World} {cs xs : List Value} {C : Cat} {x : Idx} (h : CatN N w cs C) (hN : ∀ k, N k → k < w.heap.size) (hS : C.S) (hv : -9223372036854775808 ≤ C.ver ∧ C.ver < 9223372036854775807) (hn : -9223372036854775808 ≤ C.nxt)
    (hx : IdxN Nx w xs x) (hNx : ∀ k, Nx k → k < w.heap.size) (hxn : nmW x.name) (hxS : x.cols.length ≤ 100) (s : List UInt8) :
    Calls Try.prog 26 #[.agg cs.toArray, .agg xs.toArray, .string ⟨s.toArray⟩] w (ChP N w (addIndexM C x s)) := by
  have HH := hid h
  have HX := hid hx
  obtain ⟨ao, c, ko, d, rfl⟩ := cat_form h
  obtain ⟨xa, xc, rfl⟩ := idx_form hx
  have hil : C.idxs.length ≤ 100 := hS.2.1
  have HNK := hid hN
  have HNT := hid hNx
  have HS := hid hS
  have HV := hid hv
  have HN := hid hn
  have HW := hid hxn
  have HTS := hid hxS
  clear h hx hN hNx hS hv hn hxn hxS
  go_enter Try.func26, Try.ntmps26
  go_upto_region 1 with fail
  have hb := (Below.refl w.heap.size w).alloc (Nat.le_refl _) (.cells #[.int .i64 C.ver, .int .i64 C.nxt, .slice ao C.tabs.length c, .slice ko C.idxs.length d] 25)
  have hz := heap_alloc_new w (.cells #[.int .i64 C.ver, .int .i64 C.nxt, .slice ao C.tabs.length c, .slice ko C.idxs.length d] 25)
  have hsz : (w.alloc (.cells #[.int .i64 C.ver, .int .i64 C.nxt, .slice ao C.tabs.length c, .slice ko C.idxs.length d] 25)).heap.size = w.heap.size + 1 := by simp
  generalize w.alloc (.cells #[.int .i64 C.ver, .int .i64 C.nxt, .slice ao C.tabs.length c, .slice ko C.idxs.length d] 25) = w1 at *
  have hz2 := heap_alloc_new w1 (.cells #[.int .i64 x.id, .int .i64 x.table, .string ⟨x.name.toArray⟩, .slice xa x.cols.length xc, .bool x.uniq, .int .i64 x.state, .bool x.bad] 37)
  have hb2 := hb.alloc hb.size (.cells #[.int .i64 x.id, .int .i64 x.table, .string ⟨x.name.toArray⟩, .slice xa x.cols.length xc, .bool x.uniq, .int .i64 x.state, .bool x.bad] 37)
  have hzk := (((Below.refl _ w1).alloc (Nat.le_refl _) (.cells #[.int .i64 x.id, .int .i64 x.table, .string ⟨x.name.toArray⟩, .slice xa x.cols.length xc, .bool x.uniq, .int .i64 x.state, .bool x.bad] 37)).block _ (lt_of_block hz)).trans hz
  have hsz2 : (w1.alloc (.cells #[.int .i64 x.id, .int .i64 x.table, .string ⟨x.name.toArray⟩, .slice xa x.cols.length xc, .bool x.uniq, .int .i64 x.state, .bool x.bad] 37)).heap.size = w.heap.size + 2 := by simp [hsz]
  rw [hsz] at hz2
  generalize w1.alloc (.cells #[.int .i64 x.id, .int .i64 x.table, .string ⟨x.name.toArray⟩, .slice xa x.cols.length xc, .bool x.uniq, .int .i64 x.state, .bool x.bad] 37) = w2 at *
  have hz3 := heap_alloc_new w2 (.cells #[.int .i64 0, .int .i64 0, .slice none 0 0, .slice none 0 0] 25)
  have hb3 := hb2.alloc hb2.size (.cells #[.int .i64 0, .int .i64 0, .slice none 0 0, .slice none 0 0] 25)
  have hzk2 := (((Below.refl _ w2).alloc (Nat.le_refl _) (.cells #[.int .i64 0, .int .i64 0, .slice none 0 0, .slice none 0 0] 25)).block _ (lt_of_block hzk)).trans hzk
  have hzt2 := (((Below.refl _ w2).alloc (Nat.le_refl _) (.cells #[.int .i64 0, .int .i64 0, .slice none 0 0, .slice none 0 0] 25)).block _ (lt_of_block hz2)).trans hz2
  have hsz3 : (w2.alloc (.cells #[.int .i64 0, .int .i64 0, .slice none 0 0, .slice none 0 0] 25)).heap.size = w.heap.size + 3 := by simp [hsz2]
  rw [hsz2] at hz3
  generalize w2.alloc (.cells #[.int .i64 0, .int .i64 0, .slice none 0 0, .slice none 0 0] 25) = w3 at *
  have HB := hid hb3
  have HZ := hid hzk2
  have HZT := hid hzt2
  have HZ2 := hid hz3
  have HSZ := hid hsz3
  clear hz hz2 hz3 hb hb2 hb3 hzk hzk2 hzt2 hsz hsz2 hsz3
  have z0 := cell_in HZ.out 0 _ rfl
  have z1 := cell_in HZ.out 1 _ rfl
  have z2 := cell_in HZ.out 2 _ rfl
  have z3 := cell_in HZ.out 3 _ rfl
  have CT := hid (rTable_any (HH.out.old HB.out) s)
  have CI := hid (fun W (hW : Below w3.heap.size w3 W) => rIndex_any (HH.out.old (below_step HB.out hW)) x.name)
  go_upto_region 2 with (first | (go_at_call 16; refine CT.out.mono ?_; rintro en w4 ⟨vs, rfl, hb4, hi4⟩; obtain ⟨ta, tc, tb, td, rfl⟩ := tab_form hi4; have HB4 := hid hb4; clear hb4 hi4))
  generalize htm : (C.tabs.find? fun q => decide (q.name = s)).isSome = tw at *
  generalize htg : (C.tabs.find? fun q => decide (q.name = s)).getD tab0 = t at *
  have hb5 := (Below.refl w4.heap.size w4).alloc (Nat.le_refl _) (.cells #[.int .i64 t.id, .string ⟨t.name.toArray⟩, .slice ta t.cols.length tc, .slice tb t.key.length td] 33)
  have hz5 := heap_alloc_new w4 (.cells #[.int .i64 t.id, .string ⟨t.name.toArray⟩, .slice ta t.cols.length tc, .slice tb t.key.length td] 33)
  generalize w4.alloc (.cells #[.int .i64 t.id, .string ⟨t.name.toArray⟩, .slice ta t.cols.length tc, .slice tb t.key.length td] 33) = w5 at *
  have HB35 := hid (below_step HB4.out hb5)
  have HT5 := hid hz5
  have HL4 : Hid (w3.heap.size ≤ w4.heap.size) := hid HB4.out.size
  clear hb5 hz5 z0 z1 z2 z3
  have HZ5 := hid ((HB35.out.block _ (lt_of_block HZ.out)).trans HZ.out)
  have HX5 := hid ((HB35.out.block _ (lt_of_block HZT.out)).trans HZT.out)
  have z0 := cell_in HZ5.out 0 _ rfl
  have z1 := cell_in HZ5.out 1 _ rfl
  have z2 := cell_in HZ5.out 2 _ rfl
  have z3 := cell_in HZ5.out 3 _ rfl
  have x2 := cell_in HX5.out 2 _ rfl
  go_upto_region 3 with (first | (go_at_call 18; refine (CI.out _ HB35.out).mono ?_; rintro en w5b ⟨vs, rfl, hb5b, hi5⟩; obtain ⟨ya, yc, rfl⟩ := idx_form hi5; have HB5b := hid hb5b; clear hb5b hi5))
  generalize hxm : (C.idxs.find? fun q => decide (q.name = x.name)).isSome = xw at *
  generalize (C.idxs.find? fun q => decide (q.name = x.name)).getD idx0 = y at *
  have hb5c := (Below.refl w5b.heap.size w5b).alloc (Nat.le_refl _) (.cells #[.int .i64 y.id, .int .i64 y.table, .string ⟨y.name.toArray⟩, .slice ya y.cols.length yc, .bool y.uniq, .int .i64 y.state, .bool y.bad] 37)
  generalize w5b.alloc (.cells #[.int .i64 y.id, .int .i64 y.table, .string ⟨y.name.toArray⟩, .slice ya y.cols.length yc, .bool y.uniq, .int .i64 y.state, .bool y.bad] 37) = w5c at *
  have HB5c := hid (below_step HB5b.out hb5c)
  have HB3c := hid (below_step HB35.out HB5c.out)
  have HBAc := hid (below_step HB.out HB3c.out)
  clear hb5c z0 z1 z2 z3 x2
  have HZc := hid ((HB3c.out.block _ (lt_of_block HZ.out)).trans HZ.out)
  have HXc := hid ((HB3c.out.block _ (lt_of_block HZT.out)).trans HZT.out)
  have HRc := hid ((HB3c.out.block _ (lt_of_block HZ2.out)).trans HZ2.out)
  have HTc := hid ((HB5c.out.block _ (lt_of_block HT5.out)).trans HT5.out)
  have z0 := cell_in HZc.out 0 _ rfl
  have z1 := cell_in HZc.out 1 _ rfl
  have z2 := cell_in HZc.out 2 _ rfl
  have z3 := cell_in HZc.out 3 _ rfl
  have r0 := cell_in HRc.out 0 _ rfl
  have r1 := cell_in HRc.out 1 _ rfl
  have r2 := cell_in HRc.out 2 _ rfl
  have r3 := cell_in HRc.out 3 _ rfl
  have r0f := free_in HRc.out 0
  have r1f := free_in HRc.out 1
  have r2f := free_in HRc.out 2
  have r3f := free_in HRc.out 3
  cases hf : (C.tabs.find? fun q => decide (q.name = s)) with
  | none =>
    have HD : Hid (addIndexM C x s = (C, 5)) := hid (by unfold addIndexM; rw [hf])
    obtain rfl : tw = false := by rw [← htm, hf]; rfl
    clear htm htg hxm hf
    go_wp2_with fail
    obtain ⟨p1, p2⟩ := put4 HRc.out (.int .i64 C.ver) (.int .i64 C.nxt) (.slice ao C.tabs.length c) (.slice ko C.idxs.length d)
    generalize (((w5c.setCell ⟨w.heap.size + 2, 0, none⟩ (.int .i64 C.ver)).setCell ⟨w.heap.size + 2, 1, none⟩ (.int .i64 C.nxt)).setCell ⟨w.heap.size + 2, 2, none⟩ (.slice ao C.tabs.length c)).setCell ⟨w.heap.size + 2, 3, none⟩ (.slice ko C.idxs.length d) = s4 at *
    refine bodyPost_ret (results_cell2 rfl _ _ (w.heap.size + 2) 25 _ (0, 0) _ rfl p1 Try.underlying25 rfl (by kernel_rfl)) rfl ?_
    have hb9 : Below w.heap.size w s4 := HBAc.out.trans (p2.below (by have := HBAc.out.size; omega) (fun k e => by have e8 : k = w.heap.size + 2 := e; omega))
    rw [HD.out]
    exact ⟨_, rfl, hb9, (HH.out.old hb9).mono (fun k e => Or.inl e)⟩
  | some t9 =>
  obtain rfl : t9 = t := by rw [hf] at htg; exact htg
  obtain rfl : tw = true := by rw [← htm, hf]; rfl
  clear htm htg
  generalize t9 = t at *
  have HF := hid hf
  clear hf
  have x2 := cell_in HXc.out 2 _ rfl
  have x3 := cell_in HXc.out 3 _ rfl
  have t2 := cell_in HTc.out 2 _ rfl
  have CN := fun W => rName_any W x.name HW.out
  have HXI := hid (show Rws 1 w (.slice xa x.cols.length xc) (x.cols.map zRow) from by
    obtain ⟨y', e9, hy9, -⟩ := HX.out
    simp only [List.cons.injEq, and_true, true_and] at e9
    obtain rfl := e9
    exact hy9.1)
  have CP := hid (rPlaces_any w5c (HXI.out.old HBAc.out) (t.cols.length : Int))
  go_upto_region 5 with fail
  go_cut [30] from 30 to 43 (fun sl wx => ∃ q : Bool, sl = .bool q ∧ Below w5c.heap.size w5c wx ∧ Hid ((nameB x.name && placesB x.cols t.cols.length) = !q))
  case first =>
    cases hnb : nameB x.name with
    | false =>
      rw [hnb] at CN
      have HNB := hid hnb
      clear hnb
      go_wp2_with (first | (go_at_call 50; refine (CN _).mono ?_; rintro en w6 ⟨rfl, rfl⟩))
      go_meet
      exact ⟨true, rfl, Below.refl _ _, hid (by rw [HNB.out]; rfl)⟩
    | true =>
      rw [hnb] at CN
      have HNB := hid hnb
      clear hnb
      generalize hpb : placesB x.cols (t.cols.length : Int) = pb at *
      have HPB := hid hpb
      clear hpb
      go_wp2_with (first | (go_at_call 50; refine (CN _).mono ?_; rintro en w6 ⟨rfl, rfl⟩) | (go_at_call 51; refine CP.out.mono ?_; rintro en w6 ⟨rfl, hb6⟩; have HB6 := hid hb6; clear hb6))
      go_meet
      exact ⟨!pb, by cases pb <;> rfl, HB6.out, hid (by rw [HNB.out]; cases pb <;> rfl)⟩
  case rest =>
  obtain ⟨q, rfl, hbq, hqq⟩ := hcut
  have HBQ := hid hbq
  have HQQ := hid hqq.out
  have HB36 := hid (below_step HB3c.out hbq)
  clear hbq hqq CN
  generalize wc = w6 at *
  have HBA := hid (below_step HB.out HB36.out)
  clear z0 z1 z2 z3 r0 r1 r2 r3 r0f r1f r2f r3f x2 x3 t2
  have HZ6 := hid ((HB36.out.block _ (lt_of_block HZ.out)).trans HZ.out)
  have HX6 := hid ((HB36.out.block _ (lt_of_block HZT.out)).trans HZT.out)
  have HR6 := hid ((HB36.out.block _ (lt_of_block HZ2.out)).trans HZ2.out)
  have HT6 := hid ((HBQ.out.block _ (lt_of_block HTc.out)).trans HTc.out)
  have z0 := cell_in HZ6.out 0 _ rfl
  have z1 := cell_in HZ6.out 1 _ rfl
  have z2 := cell_in HZ6.out 2 _ rfl
  have z3 := cell_in HZ6.out 3 _ rfl
  have r0 := cell_in HR6.out 0 _ rfl
  have r1 := cell_in HR6.out 1 _ rfl
  have r2 := cell_in HR6.out 2 _ rfl
  have r3 := cell_in HR6.out 3 _ rfl
  have r0f := free_in HR6.out 0
  have r1f := free_in HR6.out 1
  have r2f := free_in HR6.out 2
  have r3f := free_in HR6.out 3
  have HAM : Hid (addIndexM C x s = if (nameB x.name && placesB x.cols t.cols.length) = false then (C, 9) else if xw = true then (C, 6) else if 10 ≤ C.idxs.length ∨ 1073741824 ≤ C.nxt then (C, 4) else (addIdx C t.id x, 0)) := hid (by unfold addIndexM; rw [HF.out, ← hxm])
  clear hxm
  cases q with
  | true =>
    have HD : Hid (addIndexM C x s = (C, 9)) := hid (by rw [HAM.out, if_pos (by rw [HQQ.out]; rfl)])
    go_wp2_with fail
    obtain ⟨p1, p2⟩ := put4 HR6.out (.int .i64 C.ver) (.int .i64 C.nxt) (.slice ao C.tabs.length c) (.slice ko C.idxs.length d)
    generalize (((w6.setCell ⟨w.heap.size + 2, 0, none⟩ (.int .i64 C.ver)).setCell ⟨w.heap.size + 2, 1, none⟩ (.int .i64 C.nxt)).setCell ⟨w.heap.size + 2, 2, none⟩ (.slice ao C.tabs.length c)).setCell ⟨w.heap.size + 2, 3, none⟩ (.slice ko C.idxs.length d) = s4 at *
    refine bodyPost_ret (results_cell2 rfl _ _ (w.heap.size + 2) 25 _ (0, 0) _ rfl p1 Try.underlying25 rfl (by kernel_rfl)) rfl ?_
    have hb9 : Below w.heap.size w s4 := HBA.out.trans (p2.below (by have := HBA.out.size; omega) (fun k e => by have e8 : k = w.heap.size + 2 := e; omega))
    rw [HD.out]
    exact ⟨_, rfl, hb9, (HH.out.old hb9).mono (fun k e => Or.inl e)⟩
  | false =>
  have hq9 : ¬ (nameB x.name && placesB x.cols t.cols.length) = false := by rw [HQQ.out]; decide
  cases xw with
  | true =>
    have HD : Hid (addIndexM C x s = (C, 6)) := hid (by rw [HAM.out, if_neg hq9, if_pos rfl])
    clear hq9
    go_wp2_with fail
    obtain ⟨p1, p2⟩ := put4 HR6.out (.int .i64 C.ver) (.int .i64 C.nxt) (.slice ao C.tabs.length c) (.slice ko C.idxs.length d)
    generalize (((w6.setCell ⟨w.heap.size + 2, 0, none⟩ (.int .i64 C.ver)).setCell ⟨w.heap.size + 2, 1, none⟩ (.int .i64 C.nxt)).setCell ⟨w.heap.size + 2, 2, none⟩ (.slice ao C.tabs.length c)).setCell ⟨w.heap.size + 2, 3, none⟩ (.slice ko C.idxs.length d) = s4 at *
    refine bodyPost_ret (results_cell2 rfl _ _ (w.heap.size + 2) 25 _ (0, 0) _ rfl p1 Try.underlying25 rfl (by kernel_rfl)) rfl ?_
    have hb9 : Below w.heap.size w s4 := HBA.out.trans (p2.below (by have := HBA.out.size; omega) (fun k e => by have e8 : k = w.heap.size + 2 := e; omega))
    rw [HD.out]
    exact ⟨_, rfl, hb9, (HH.out.old hb9).mono (fun k e => Or.inl e)⟩
  | false =>
  by_cases h6 : 10 ≤ C.idxs.length
  case pos =>
    have HD : Hid (addIndexM C x s = (C, 4)) := hid (by rw [HAM.out, if_neg hq9, if_neg (by decide), if_pos (Or.inl h6)])
    have h6i : (10 : Int) ≤ (C.idxs.length : Int) := by omega
    clear hq9
    go_wp2_with fail
    obtain ⟨p1, p2⟩ := put4 HR6.out (.int .i64 C.ver) (.int .i64 C.nxt) (.slice ao C.tabs.length c) (.slice ko C.idxs.length d)
    generalize (((w6.setCell ⟨w.heap.size + 2, 0, none⟩ (.int .i64 C.ver)).setCell ⟨w.heap.size + 2, 1, none⟩ (.int .i64 C.nxt)).setCell ⟨w.heap.size + 2, 2, none⟩ (.slice ao C.tabs.length c)).setCell ⟨w.heap.size + 2, 3, none⟩ (.slice ko C.idxs.length d) = s4 at *
    refine bodyPost_ret (results_cell2 rfl _ _ (w.heap.size + 2) 25 _ (0, 0) _ rfl p1 Try.underlying25 rfl (by kernel_rfl)) rfl ?_
    have hb9 : Below w.heap.size w s4 := HBA.out.trans (p2.below (by have := HBA.out.size; omega) (fun k e => by have e8 : k = w.heap.size + 2 := e; omega))
    rw [HD.out]
    exact ⟨_, rfl, hb9, (HH.out.old hb9).mono (fun k e => Or.inl e)⟩
  have h6i : ¬ (10 : Int) ≤ (C.idxs.length : Int) := by omega
  by_cases hx : 1073741824 ≤ C.nxt
  case pos =>
    have HD : Hid (addIndexM C x s = (C, 4)) := hid (by rw [HAM.out, if_neg hq9, if_neg (by decide), if_pos (Or.inr hx)])
    clear hq9
    go_wp2_with fail
    obtain ⟨p1, p2⟩ := put4 HR6.out (.int .i64 C.ver) (.int .i64 C.nxt) (.slice ao C.tabs.length c) (.slice ko C.idxs.length d)
    generalize (((w6.setCell ⟨w.heap.size + 2, 0, none⟩ (.int .i64 C.ver)).setCell ⟨w.heap.size + 2, 1, none⟩ (.int .i64 C.nxt)).setCell ⟨w.heap.size + 2, 2, none⟩ (.slice ao C.tabs.length c)).setCell ⟨w.heap.size + 2, 3, none⟩ (.slice ko C.idxs.length d) = s4 at *
    refine bodyPost_ret (results_cell2 rfl _ _ (w.heap.size + 2) 25 _ (0, 0) _ rfl p1 Try.underlying25 rfl (by kernel_rfl)) rfl ?_
    have hb9 : Below w.heap.size w s4 := HBA.out.trans (p2.below (by have := HBA.out.size; omega) (fun k e => by have e8 : k = w.heap.size + 2 := e; omega))
    rw [HD.out]
    exact ⟨_, rfl, hb9, (HH.out.old hb9).mono (fun k e => Or.inl e)⟩
  have HD : Hid (addIndexM C x s = (addIdx C t.id x, 0)) := hid (by rw [HAM.out, if_neg hq9, if_neg (by decide), if_neg (by omega)])
  clear hq9 HAM
  have CC := hid (rCopy_any (HH.out.old HBA.out) (fun k hk => Nat.lt_of_lt_of_le (HNK.out k hk) HBA.out.size) HS.out)
  go_upto_region 12 with (first | (go_at_call 11; refine CC.out.mono ?_; rintro en w7 ⟨vs, rfl, hb7, hc7⟩; obtain ⟨vx, vy, rfl, ho1, ho2, ho3⟩ := hc7; obtain ⟨sa, sc, rfl⟩ := own_form ho1; obtain ⟨ka, kc, rfl⟩ := own_form ho2; have HB7 := hid hb7; have HO1 := hid ho1; have HO2 := hid ho2; have HO3 := hid ho3; clear hb7 ho1 ho2 ho3))
  have hb8 := (Below.refl w7.heap.size w7).alloc (Nat.le_refl _) (.cells #[.int .i64 C.ver, .int .i64 C.nxt, .slice sa C.tabs.length sc, .slice ka C.idxs.length kc] 25)
  have hz8 := heap_alloc_new w7 (.cells #[.int .i64 C.ver, .int .i64 C.nxt, .slice sa C.tabs.length sc, .slice ka C.idxs.length kc] 25)
  generalize w7.alloc (.cells #[.int .i64 C.ver, .int .i64 C.nxt, .slice sa C.tabs.length sc, .slice ka C.idxs.length kc] 25) = w8 at *
  have HB78 := hid hb8
  have HN8 := hid hz8
  have HB68 := hid (below_step HB7.out hb8)
  have HBA8 := hid (below_step HBA.out HB68.out)
  have HZ8 := hid ((HB68.out.block _ (lt_of_block HZ6.out)).trans HZ6.out)
  have HX8 := hid ((HB68.out.block _ (lt_of_block HX6.out)).trans HX6.out)
  have HR8 := hid ((HB68.out.block _ (lt_of_block HR6.out)).trans HR6.out)
  have HT8 := hid ((HB68.out.block _ (lt_of_block HT6.out)).trans HT6.out)
  have HL6 : Hid (w.heap.size + 3 ≤ w6.heap.size) := hid (by have := HB36.out.size; have := HSZ.out; omega)
  have HL7 : Hid (w6.heap.size ≤ w7.heap.size) := hid HB7.out.size
  have HL4b : Hid (w.heap.size + 3 ≤ w4.heap.size) := hid (by have := HL4.out; have := HSZ.out; omega)
  clear hb8 hz8 z0 z1 z2 z3 r0 r1 r2 r3 r0f r1f r2f r3f
  have z1 := cell_in HZ8.out 1 _ rfl
  have t0 := cell_in HT8.out 0 _ rfl
  have x0 := cell_in HX8.out 0 _ rfl
  have x1 := cell_in HX8.out 1 _ rfl
  have x2 := cell_in HX8.out 2 _ rfl
  have x3 := cell_in HX8.out 3 _ rfl
  have x4 := cell_in HX8.out 4 _ rfl
  have x5 := cell_in HX8.out 5 _ rfl
  have x6 := cell_in HX8.out 6 _ rfl
  have x0f := free_in HX8.out 0
  have x1f := free_in HX8.out 1
  have x2f := free_in HX8.out 2
  have x3f := free_in HX8.out 3
  have x4f := free_in HX8.out 4
  have x5f := free_in HX8.out 5
  have x6f := free_in HX8.out 6
  have hne1 : ¬ w4.heap.size = w.heap.size + 1 := by have := HL4b.out; omega
  have hne2 : ¬ w.heap.size + 1 = w4.heap.size := by have := HL4b.out; omega
  have hne3 : ¬ w.heap.size = w.heap.size + 1 := by omega
  have hne4 : ¬ w.heap.size + 1 = w.heap.size := by omega
  go_region
  have HXs1 := hid (put_in HX8.out 0 (.int .i64 C.nxt))
  have HKs1 : Hid (Keep (fun k => k = w.heap.size + 1) w8 (w8.setCell ⟨w.heap.size + 1, 0, none⟩ (.int .i64 C.nxt))) := hid (Keep.set _ _ _ rfl)
  generalize w8.setCell ⟨w.heap.size + 1, 0, none⟩ (.int .i64 C.nxt) = v1 at *
  have HXs2 := hid (put_in HXs1.out 1 (.int .i64 t.id))
  have HKs2 : Hid (Keep (fun k => k = w.heap.size + 1) w8 (v1.setCell ⟨w.heap.size + 1, 1, none⟩ (.int .i64 t.id))) := hid (HKs1.out.trans (Keep.set _ _ _ rfl))
  generalize v1.setCell ⟨w.heap.size + 1, 1, none⟩ (.int .i64 t.id) = v2 at *
  have HXs3 := hid (put_in HXs2.out 5 (.int .i64 1))
  have HKs3 : Hid (Keep (fun k => k = w.heap.size + 1) w8 (v2.setCell ⟨w.heap.size + 1, 5, none⟩ (.int .i64 1))) := hid (HKs2.out.trans (Keep.set _ _ _ rfl))
  generalize v2.setCell ⟨w.heap.size + 1, 5, none⟩ (.int .i64 1) = v3 at *
  have HXs4 := hid (put_in HXs3.out 6 (.bool false))
  have HKs4 : Hid (Keep (fun k => k = w.heap.size + 1) w8 (v3.setCell ⟨w.heap.size + 1, 6, none⟩ (.bool false))) := hid (HKs3.out.trans (Keep.set _ _ _ rfl))
  generalize v3.setCell ⟨w.heap.size + 1, 6, none⟩ (.bool false) = v4 at *
  have HX9 : Hid (v4.drew.heap[w.heap.size + 1]? = some (.cells #[.int .i64 C.nxt, .int .i64 t.id, .string ⟨x.name.toArray⟩, .slice xa x.cols.length xc, .bool x.uniq, .int .i64 1, .bool false] 37 (0, 0))) := HXs4
  have HK9 : Hid (Keep (fun k => k = w.heap.size + 1) w8 v4.drew) := hid (HKs4.out.trans (Keep.of_below ⟨rfl, rfl, rfl, Nat.le_refl _, fun _ _ => rfl⟩))
  generalize v4.drew = w9 at *
  clear z1 t0 x0 x1 x2 x3 x4 x5 x6 x0f x1f x2f x3f x4f x5f x6f hne1 hne2 hne3 hne4
  have HN9 := hid ((HK9.out.block _ (lt_of_block HN8.out) (fun e => by have e9 : w7.heap.size = w.heap.size + 1 := e; have := HL6.out; have := HL7.out; omega)).trans HN8.out)
  have HR9 := hid ((HK9.out.block _ (lt_of_block HR8.out) (fun e => by have e9 : w.heap.size + 2 = w.heap.size + 1 := e; omega)).trans HR8.out)
  have HBA9 : Hid (Below w.heap.size w w9) := hid (HBA8.out.trans (HK9.out.below (by have := HBA8.out.size; omega) (fun k e => by have e9 : k = w.heap.size + 1 := e; omega)))
  have n3 := cell_in HN9.out 3 _ rfl
  have x0 := cell_in HX9.out 0 _ rfl
  have x1 := cell_in HX9.out 1 _ rfl
  have x2 := cell_in HX9.out 2 _ rfl
  have x3 := cell_in HX9.out 3 _ rfl
  have x4 := cell_in HX9.out 4 _ rfl
  have x5 := cell_in HX9.out 5 _ rfl
  have x6 := cell_in HX9.out 6 _ rfl
  have HA : Hid (Below w9.heap.size w9 (w9.alloc (.cells #[.int .i64 C.nxt, .int .i64 t.id, .string ⟨x.name.toArray⟩, .slice xa x.cols.length xc, .bool x.uniq, .int .i64 1, .bool false] 37))) := hid ((Below.refl _ _).alloc (Nat.le_refl _) _)
  have HRA := hid (heap_alloc_new w9 (.cells #[.int .i64 C.nxt, .int .i64 t.id, .string ⟨x.name.toArray⟩, .slice xa x.cols.length xc, .bool x.uniq, .int .i64 1, .bool false] 37))
  have HK79 : Hid (Keep (fun k => k = w.heap.size + 1) w7 w9) := hid ((Keep.of_below HB78.out).trans HK9.out)
  have HKA : Hid (Keep (fun k => k = w.heap.size + 1) w7 (w9.alloc (.cells #[.int .i64 C.nxt, .int .i64 t.id, .string ⟨x.name.toArray⟩, .slice xa x.cols.length xc, .bool x.uniq, .int .i64 1, .bool false] 37))) := hid (HK79.out.trans (Keep.of_below HA.out))
  have HNE : Hid (∀ k, w6.heap.size ≤ k → ¬ k = w.heap.size + 1) := hid (fun k h e => by have := HL6.out; omega)
  have HO5 := hid (HO1.out.mono HKA.out (fun k e => HNE.out k (HO1.out.lt k e).1) (fun r a h => h.keep HKA.out (fun k e => HNE.out k e.1.1)))
  have HX5 := hid (HO2.out.mono HKA.out (fun k e => HNE.out k (HO2.out.lt k e).1) (fun r a h => h.keep HKA.out (fun k e => HNE.out k e.1.1)))
  have HTK : Hid (ZsN Nx (w9.alloc (.cells #[.int .i64 C.nxt, .int .i64 t.id, .string ⟨x.name.toArray⟩, .slice xa x.cols.length xc, .bool x.uniq, .int .i64 1, .bool false] 37)) (.slice xa x.cols.length xc) x.cols) := hid (by
    obtain ⟨y', e9, k9, -⟩ := (HX.out.old (HBA9.out)).old HA.out
    simp only [List.cons.injEq, and_true, true_and] at e9
    obtain rfl := e9
    exact k9)
  go_upto_region 14 with (first
    | (at_builtin; refine wp_lapp2 (by rfl) _ _ 23 rfl w6.heap.size 7 80 37 Try.underlying23 (.agg #[.int .i64 0, .int .i64 0, .string ⟨#[]⟩, .slice none 0 0, .bool false, .int .i64 0, .bool false]) (by kernel_rfl) (by simp [Value.cells]) (by decide) _ _ rfl HX5.out w9.heap.size [.int .i64 C.nxt, .int .i64 t.id, .string ⟨x.name.toArray⟩, .slice xa x.cols.length xc, .bool x.uniq, .int .i64 1, .bool false] rfl (fun j q hj => cell_in HRA.out j q (by simpa using hj)) rfl (fun q hq9 => by simp only [List.mem_cons, List.not_mem_nil, or_false] at hq9; rcases hq9 with rfl | rfl | rfl | rfl | rfl | rfl | rfl <;> rfl) (by unfold maxLen; omega) (by omega) (by have := HL7.out; have := HKA.out.size; omega) ⟨C.nxt, t.id, x.name, x.cols, x.uniq, 1, false⟩ (fun va vc wA p1 p2 p3 => ?_); have hl1 := HO5.out.lt; have hl2 := HX5.out.lt; have hkg := Keep.of_grown (X := fun q => (Value.slice ka C.idxs.length kc).ownBlock = some q) p2 (fun k hk9 => hk9); have hl6 := HL6.out; have hl7 := HL7.out; have hsA := HKA.out.size; have hsg := p2.size; have hTN : IdxN (fun k => k < wA.heap.size ∧ k ≠ w7.heap.size) wA [.int .i64 C.nxt, .int .i64 t.id, .string ⟨x.name.toArray⟩, .slice xa x.cols.length xc, .bool x.uniq, .int .i64 1, .bool false] ⟨C.nxt, t.id, x.name, x.cols, x.uniq, 1, false⟩ := ⟨_, rfl, (HTK.out.keep hkg (fun k e e9 => by have := HNT.out k e; have := (hl2 k e9).1; omega)).mono (fun k e => by have := HNT.out k e; exact ⟨by omega, by omega⟩), rfl⟩; have HXA := hid (p1 (IdxN (fun k => k < wA.heap.size ∧ k ≠ w7.heap.size)) ⟨C.nxt, t.id, x.name, x.cols, x.uniq, 1, false⟩ (fun r a h => (h.keep hkg (fun k e => e.1.2.2)).mono (fun k e => by have := e.1.2.1; exact ⟨by omega, by omega⟩)) hTN); have HOA := hid ((HO5.out.mono (R' := TabN (fun k => k < wA.heap.size ∧ k ≠ w7.heap.size)) hkg (fun k e e9 => HO3.out k e e9) (fun r a h => (h.keep hkg (fun k e e9 => e.2 e9)).mono (fun k e => by have := e.1.2.1; exact ⟨by omega, by omega⟩)))); have HNA := hid ((hkg.block _ (Nat.lt_of_lt_of_le (lt_of_block HN9.out) HA.out.size) (fun e => by have := (hl2 _ e).1; have := (HO2.out.lt _ e).2; omega)).trans ((HA.out.block _ (lt_of_block HN9.out)).trans HN9.out)); have HRB := hid ((hkg.block _ (Nat.lt_of_lt_of_le (lt_of_block HR9.out) HA.out.size) (fun e => by have := (hl2 _ e).1; omega)).trans ((HA.out.block _ (lt_of_block HR9.out)).trans HR9.out)); have HBB : Hid (Below w.heap.size w wA) := hid ((HBA9.out.trans (HA.out.mono HBA9.out.size)).trans (hkg.below (by omega) (fun k e => by have := (hl2 k e).1; omega))); have HS9 : Hid (w7.heap.size < wA.heap.size) := hid (by have := lt_of_block HN9.out; have := HA.out.size; omega); have HVA : Hid (∀ k, (Value.slice va (C.idxs.length + 1) vc).ownBlock = some k → k < wA.heap.size ∧ k ≠ w7.heap.size) := hid (fun k e => ⟨(HXA.out.lt k e).2, (p3 k e).elim (fun h => by have := (HO2.out.lt k h).2; omega) (fun h => by have := lt_of_block HN9.out; have := HA.out.size; omega)⟩); clear p1 p2 p3 hl1 hl2 hkg hsA hsg hTN hl6 hl7 n3 x0 x1 x2 x3 x4 x5 x6; have n3 := cell_in HNA.out 3 _ rfl; have n3f := free_in HNA.out 3))
  have HNB : Hid ((wA.setCell ⟨w7.heap.size, 3, none⟩ (.slice va (C.idxs.length + 1) vc)).heap[w7.heap.size]? = some (.cells #[.int .i64 C.ver, .int .i64 C.nxt, .slice sa C.tabs.length sc, .slice va (C.idxs.length + 1) vc] 25 (0, 0))) := hid (put_in HNA.out 3 (.slice va (C.idxs.length + 1) vc))
  have HKB : Hid (Keep (fun k => k = w7.heap.size) wA (wA.setCell ⟨w7.heap.size, 3, none⟩ (.slice va (C.idxs.length + 1) vc))) := hid (Keep.set _ _ _ rfl)
  generalize wA.setCell ⟨w7.heap.size, 3, none⟩ (.slice va (C.idxs.length + 1) vc) = wB at *
  clear n3 n3f
  have HSB := hid HKB.out.size
  have HRB2 := hid ((HKB.out.block _ (lt_of_block HRB.out) (fun e => by have e9 : w.heap.size + 2 = w7.heap.size := e; have := HL6.out; have := HL7.out; omega)).trans HRB.out)
  have HBB2 : Hid (Below w.heap.size w wB) := hid (HBB.out.trans (HKB.out.below (by have := HBB.out.size; omega) (fun k e => by have e9 : k = w7.heap.size := e; have := HL6.out; have := HL7.out; omega)))
  have HC2 : Hid (CatN (fun k => k < wA.heap.size ∧ k ≠ w7.heap.size) wB [.int .i64 C.ver, .int .i64 C.nxt, .slice sa C.tabs.length sc, .slice va (C.idxs.length + 1) vc] { C with idxs := C.idxs ++ [⟨C.nxt, t.id, x.name, x.cols, x.uniq, 1, false⟩] }) := hid
    ⟨_, _, rfl, (HOA.out.lst _ (fun k e => ⟨(HOA.out.lt k e).2, fun e9 => by have := (HO1.out.lt k e).2; omega⟩)).keep HKB.out (fun k e e9 => e.2 e9) (fun r a h => h.keep HKB.out (fun k e e9 => e.2 e9)),
      (HXA.out.lst _ (fun k e => HVA.out k e)).keep HKB.out (fun k e e9 => e.2 e9) (fun r a h => h.keep HKB.out (fun k e e9 => e.2 e9)), rfl, rfl⟩
  have HS2 : Hid (Cat.S { C with idxs := C.idxs ++ [⟨C.nxt, t.id, x.name, x.cols, x.uniq, 1, false⟩] }) := hid ⟨HS.out.1, by show (C.idxs ++ [_]).length ≤ 100; rw [List.length_append]; show C.idxs.length + 1 ≤ 100; omega, HS.out.2.2.1, fun q hq9 => by
    rcases List.mem_append.1 hq9 with h9 | h9
    · exact HS.out.2.2.2 q h9
    · simp only [List.mem_cons, List.not_mem_nil, or_false] at h9
      subst h9
      exact HTS.out⟩
  have CC3 := hid (rCopy_any HC2.out (fun k hk => by have := HSB.out; have := hk.1; omega) HS2.out)
  have n0 := cell_in HNB.out 0 _ rfl
  have n1 := cell_in HNB.out 1 _ rfl
  have n2 := cell_in HNB.out 2 _ rfl
  have n3 := cell_in HNB.out 3 _ rfl
  go_upto_region 15 with (first | (go_at_call 11; refine CC3.out.mono ?_; rintro en wC ⟨vs, rfl, hbC, hcC⟩; obtain ⟨vx, vy, rfl, ho1, ho2, ho3⟩ := hcC; obtain ⟨ga, gc, rfl⟩ := own_form ho1; obtain ⟨ha, hc, rfl⟩ := own_form ho2; have HBC := hid hbC; have HP1 := hid ho1; have HP2 := hid ho2; have HNC := hid ((HBC.out.block _ (lt_of_block HNB.out)).trans HNB.out); have HRC := hid ((HBC.out.block _ (lt_of_block HRB2.out)).trans HRB2.out); clear hbC ho1 ho2 ho3 n0 n1 n2 n3; have n0 := cell_in HNC.out 0 _ rfl; have n1 := cell_in HNC.out 1 _ rfl; have n2 := cell_in HNC.out 2 _ rfl; have n3 := cell_in HNC.out 3 _ rfl; have n0f := free_in HNC.out 0; have n1f := free_in HNC.out 1; have n2f := free_in HNC.out 2; have n3f := free_in HNC.out 3))
  obtain ⟨pn, pk⟩ := put4 HNC.out (.int .i64 C.ver) (.int .i64 C.nxt) (.slice ga C.tabs.length gc) (.slice ha (C.idxs.length + 1) hc)
  generalize ((((wC.setCell ⟨w7.heap.size, 0, none⟩ (.int .i64 C.ver)).setCell ⟨w7.heap.size, 1, none⟩ (.int .i64 C.nxt)).setCell ⟨w7.heap.size, 2, none⟩ (.slice ga C.tabs.length gc)).setCell ⟨w7.heap.size, 3, none⟩ (.slice ha (C.idxs.length + 1) hc)) = wD at *
  have HND := hid pn
  have HKD : Hid (Keep (fun k => k = w7.heap.size) wC wD) := hid pk
  clear pn pk n0 n1 n2 n3 n0f n1f n2f n3f
  have n1 := cell_in HND.out 1 _ rfl
  have n1f := free_in HND.out 1
  have hnw : wrap64 (C.nxt + 1) = C.nxt + 1 := by have := HN.out; unfold wrap64; omega
  have hvw : wrap64 (C.ver + 1) = C.ver + 1 := by have := HV.out; unfold wrap64; omega
  go_upto_region 16 with fail
  have HNE2 := hid (put_in HND.out 1 (.int .i64 (C.nxt + 1)))
  have HKE : Hid (Keep (fun k => k = w7.heap.size) wC (wD.setCell ⟨w7.heap.size, 1, none⟩ (.int .i64 (C.nxt + 1)))) := hid (HKD.out.trans (Keep.set _ _ _ rfl))
  generalize wD.setCell ⟨w7.heap.size, 1, none⟩ (.int .i64 (C.nxt + 1)) = wE at *
  clear n1 n1f hnw
  have n0 := cell_in HNE2.out 0 _ rfl
  have n0f := free_in HNE2.out 0
  go_upto_region 17 with fail
  have HNF := hid (put_in HNE2.out 0 (.int .i64 (C.ver + 1)))
  have HKF : Hid (Keep (fun k => k = w7.heap.size) wE (wE.setCell ⟨w7.heap.size, 0, none⟩ (.int .i64 (C.ver + 1)))) := hid (Keep.set _ _ _ rfl)
  have HKG : Hid (Keep (fun k => k = w7.heap.size) wC (wE.setCell ⟨w7.heap.size, 0, none⟩ (.int .i64 (C.ver + 1)))) := hid (HKE.out.trans (Keep.set _ _ _ rfl))
  generalize wE.setCell ⟨w7.heap.size, 0, none⟩ (.int .i64 (C.ver + 1)) = wF at *
  clear n0 n0f hvw
  have n0 := cell_in HNF.out 0 _ rfl
  have n1 := cell_in HNF.out 1 _ rfl
  have n2 := cell_in HNF.out 2 _ rfl
  have n3 := cell_in HNF.out 3 _ rfl
  have HRF := hid ((HKG.out.block _ (lt_of_block HRC.out) (fun e => by have e9 : w.heap.size + 2 = w7.heap.size := e; have := HL6.out; have := HL7.out; omega)).trans HRC.out)
  have r0 := cell_in HRF.out 0 _ rfl
  have r1 := cell_in HRF.out 1 _ rfl
  have r2 := cell_in HRF.out 2 _ rfl
  have r3 := cell_in HRF.out 3 _ rfl
  have r0f := free_in HRF.out 0
  have r1f := free_in HRF.out 1
  have r2f := free_in HRF.out 2
  have r3f := free_in HRF.out 3
  go_wp2_with fail
  obtain ⟨p1, p2⟩ := put4 HRF.out (.int .i64 (C.ver + 1)) (.int .i64 (C.nxt + 1)) (.slice ga C.tabs.length gc) (.slice ha (C.idxs.length + 1) hc)
  generalize (((wF.setCell ⟨w.heap.size + 2, 0, none⟩ (.int .i64 (C.ver + 1))).setCell ⟨w.heap.size + 2, 1, none⟩ (.int .i64 (C.nxt + 1))).setCell ⟨w.heap.size + 2, 2, none⟩ (.slice ga C.tabs.length gc)).setCell ⟨w.heap.size + 2, 3, none⟩ (.slice ha (C.idxs.length + 1) hc) = s4 at *
  refine bodyPost_ret (results_cell2 rfl _ _ (w.heap.size + 2) 25 _ (0, 0) _ rfl p1 Try.underlying25 rfl (by kernel_rfl)) rfl ?_
  rw [HD.out]
  have hsb := HSB.out
  have hs9 := HS9.out
  have hl6 := HL6.out
  have hl7 := HL7.out
  have hsc := HKG.out.size
  have hs2 := p2.size
  have hbc := HBC.out.size
  have hbb := HBB2.out.size
  have hl1 := HP1.out.lt
  have hl2 := HP2.out.lt
  have hk : Keep (fun k => k = w7.heap.size ∨ k = w.heap.size + 2) wC s4 := (HKG.out.mono (fun k _ e => Or.inl e)).trans (p2.mono (fun k _ e => Or.inr e))
  have hb9 : Below w.heap.size w s4 := (below_step HBB2.out HBC.out).trans (hk.below (by omega) (fun k e => by rcases e with e | e <;> omega))
  have hno : ∀ k, wB.heap.size ≤ k → ¬ (k = w7.heap.size ∨ k = w.heap.size + 2) := fun k e e9 => by rcases e9 with e9 | e9 <;> omega
  have q1 := ((HP1.out.lst (fun k => wB.heap.size ≤ k ∧ k < wC.heap.size) (fun k e => hl1 k e)).keep hk (fun k e => hno k e.1) (fun r a h => h.keep hk (fun k e => hno k e.1.1))).mono (R' := TabN (Old N w s4)) (N' := Old N w s4) (fun k e => Or.inr ⟨by omega, by omega⟩) (fun r a h => h.mono (fun k e => Or.inr ⟨by have := e.1.1; omega, by have := e.1.2.1; omega⟩))
  have q2 := ((HP2.out.lst (fun k => wB.heap.size ≤ k ∧ k < wC.heap.size) (fun k e => hl2 k e)).keep hk (fun k e => hno k e.1) (fun r a h => h.keep hk (fun k e => hno k e.1.1))).mono (R' := IdxN (Old N w s4)) (N' := Old N w s4) (fun k e => Or.inr ⟨by omega, by omega⟩) (fun r a h => h.mono (fun k e => Or.inr ⟨by have := e.1.1; omega, by have := e.1.2.1; omega⟩))
  simp only [List.length_append, List.length_cons, List.length_nil, Nat.zero_add] at q2
  have hc9 : CatN (Old N w s4) s4 [.int .i64 (C.ver + 1), .int .i64 (C.nxt + 1), .slice ga C.tabs.length gc, .slice ha (C.idxs.length + 1) hc] (addIdx C t.id x) := ⟨_, _, rfl, q1, q2, rfl, rfl⟩
  exact ⟨_, rfl, hb9, hc9⟩
end Go.Proofs.Ytkpeidhddicdmaa

