import Derived.Deep.CutRange
import Derived.WalkKit
import Derived.OpenShut
import Derived.Test.YtddnleofflobhaaGreatDoorRows
import Derived.WalkSpells
import Derived.WalkLawsBesides
import Derived.Laws.AppendOwnNone
import Derived.BigQuiet
import Derived.Deep.QuietTactic
import Derived.Deep.MidRow
import Derived.Laws.MakeOwn
import Derived.Deep.CutBlock
import Derived.Sort.CutIn
import Derived.RangeFuncNested
import Derived.RangeFuncBound
import Derived.RangeFuncCalls
import Derived.RangeFuncLeaves
import Derived.RangeFuncBox
import Derived.Shelf.Abstract
import Derived.Shelf.RegionOpen
import Derived.OwnWalkIn
import Derived.TacticsInMore
import Derived.LoopNIn
import Derived.LoopIn
import Derived.OrdersIn
import Derived.LaidEql
import Derived.Stop.Asserts
import Derived.RowKitTokens
import Derived.Lib.Bytes
import Derived.Deep.RegionHeld3
import Derived.Deep.WholeRow
import Derived.BigRegion
import Derived.Great.BuildSlice
import Derived.Deep.AppendLies
import Derived.StillTailTactics
import Derived.Deep.RegionLaw
import Derived.Great.FillDense
import Derived.Laws.Tables
import Derived.LoopN
import Derived.Deep.OwnRows
import Derived.OwnWalk
import Derived.Deep.Slices
import Derived.Lib.AppendZeros
import Derived.Deep.RegionWith
import Derived.Lib.SliceRun
import Derived.ProofKit
import Derived.Deep.Matrix
import Derived.Deep.Grids
import Derived.Test.YtddnleofflobhaaGreatDoorVG1
import Derived.Test.YtddnleofflobhaaGreatDoorVG2
import Derived.Test.YtddnleofflobhaaGreatDoorVG3
import Derived.Test.YtddnleofflobhaaGreatDoorVG4
import Derived.Test.YtddnleofflobhaaGreatDoorVG5
import Derived.Test.YtddnleofflobhaaGreatDoorVG6
import Derived.Test.YtddnleofflobhaaGreatDoorVG7
import Derived.Test.YtddnleofflobhaaGreatDoorVG8
import Derived.Test.YtddnleofflobhaaGreatDoorVG9
import Derived.Test.YtddnleofflobhaaGreatDoorVG10
set_option linter.unusedVariables false
set_option linter.unusedSimpArgs false
set_option linter.unusedVariables false
set_option linter.unusedSimpArgs false
set_option maxRecDepth 100000
namespace Go.Proofs.YtddnleofflobhaaGreatDoor
open Go.RowKit Go.Deep

/-- A literal of slices, just made. -/
theorem bss_lit {w : World} (R : List Rc) (hm : R.length ≤ 1000) (hR : ∀ r ∈ R, Rd w (rcv r) r.b) : Bss (w.alloc (.cells (R.map rcv).toArray 25)) (.slice (some ⟨w.heap.size, 0, none⟩) R.length R.length) R := by
  have hb : Below w.heap.size w (w.alloc (.cells (R.map rcv).toArray 25)) := (Below.refl _ _).alloc (Nat.le_refl _) _
  refine ⟨⟨some ⟨w.heap.size, 0, none⟩, R.length, by rw [List.length_map], by rw [List.length_map]; exact Nat.le_refl _, by unfold maxLen; omega, (fun h => by cases h), fun r hr => ?_, fun a ha j u hu => ?_⟩, fun r hr => (hR r hr).old hb⟩
  · obtain ⟨q, -, rfl⟩ := List.mem_map.1 hr
    refine ⟨rfl, fun u hu => ?_⟩
    obtain rfl := List.mem_singleton.1 hu
    rfl
  · cases ha
    rw [flat_one] at hu
    have hh := heap_alloc_new w (.cells (R.map rcv).toArray 25)
    rw [show Addr.add ⟨w.heap.size, 0, none⟩ j = ⟨w.heap.size, j, none⟩ from by simp [Addr.add]; omega]
    unfold World.cell?
    rw [hh]
    show ((R.map rcv).toArray)[j]? = _
    rw [List.getElem?_toArray]
    exact hu

theorem gives_rd {w' : World} {v : Value} {B : Nat} {l : List UInt8} (h : w'.ownsRow B 5 1 v l.length (l.map bv)) : ∃ a c, v = .slice a l.length c ∧ Rd w' (.slice a l.length c) l := by
  obtain ⟨a, c, rfl⟩ := own_form h
  exact ⟨a, c, rfl, Rd.own h⟩

theorem five_rd {w : World} {r1 r2 r3 r4 r5 : Rc} (h1 : Rd w (rcv r1) r1.b) (h2 : Rd w (rcv r2) r2.b) (h3 : Rd w (rcv r3) r3.b) (h4 : Rd w (rcv r4) r4.b) (h5 : Rd w (rcv r5) r5.b) : ∀ r ∈ [r1, r2, r3, r4, r5], Rd w (rcv r) r.b := fun r hr => by
  simp only [List.mem_cons, List.not_mem_nil, or_false] at hr
  rcases hr with rfl | rfl | rfl | rfl | rfl
  · exact h1
  · exact h2
  · exact h3
  · exact h4
  · exact h5

set_option maxHeartbeats 16000000 in
theorem diff_any (was is : Lo) (w : World) (hw : LoAt w was) (hi : LoAt w is) (hr : rightP is.pl = true) (hlong : longP is.pl ≤ 1000000000000) : Calls Tryz.prog 67 #[was.v, is.v] w (Gives 5 w (diffB was.pl is.pl)) := by
  have hdl := diff_len was.pl is.pl hr hi.ht (by unfold Lo.pl; simp only [List.length_map]; unfold longP Lo.pl at hlong; simp only [List.map_map] at hlong; have : is.es.length ≤ ((is.es.map ((fun e : Pe => 13 + e.b.length) ∘ En.pe)).sum) := by { generalize is.es = E; induction E with | nil => simp | cons x E ih => simp only [List.map_cons, List.sum_cons, List.length_cons, Function.comp]; omega }; omega)
  have CB0 := fun W (hW : Below w.heap.size w W) => behind_any was is.si W (hw.old hW) hi.si
  have CSn0 := fun W (hW : Below w.heap.size w W) => sameSnap_any was.si was.st was.sd is.si is.st is.sd W (hw.sd.old hW) (hi.sd.old hW)
  have hrs : 0 ≤ is.hv ∧ is.hv ≤ 5 := by
    unfold rightP at hr
    simp only [Bool.and_eq_true, decide_eq_true_eq] at hr
    exact hr.1.1
  have hrE : ∀ (k : Nat) (e : En), is.es[k]? = some e → e.r.b.length ≤ 32668 ∧ e.t < 18446744073709551616 := fun k e hk => by
    unfold rightP at hr
    simp only [Bool.and_eq_true] at hr
    have h9 := rightE_get hr.2 k e.pe (by show (is.es.map En.pe)[k]? = _; rw [List.getElem?_map, hk]; rfl)
    exact ⟨h9.2.2.2, (hi.es.2 e (List.mem_of_getElem? hk)).2.1⟩
  have hsdl : is.sd.b.length ≤ 32668 := by
    unfold rightP rightS at hr
    simp only [Bool.and_eq_true, decide_eq_true_eq] at hr
    exact hr.1.2.2.2.2
  obtain ⟨PRE, hPRE⟩ : ∃ PRE, PRE = numL is.ht ++ numL is.hv.toNat := ⟨_, rfl⟩
  have hb : Below w.heap.size w ((w.alloc (.cells #[.int .u64 (was.ht : Int), .int .i64 was.hv, .int .u64 (was.si : Int), .int .u64 (was.st : Int), .slice was.sd.a was.sd.b.length was.sd.c, .slice was.eo was.es.length was.ec] 30)).alloc (.cells #[.int .u64 (is.ht : Int), .int .i64 is.hv, .int .u64 (is.si : Int), .int .u64 (is.st : Int), .slice is.sd.a is.sd.b.length is.sd.c, .slice is.eo is.es.length is.ec] 30)) := ((Below.refl _ _).alloc (Nat.le_refl _) _).alloc (by simp) _
  have h0 := (Below.heap_alloc (w.alloc (.cells #[.int .u64 (was.ht : Int), .int .i64 was.hv, .int .u64 (was.si : Int), .int .u64 (was.st : Int), .slice was.sd.a was.sd.b.length was.sd.c, .slice was.eo was.es.length was.ec] 30)) (.cells #[.int .u64 (is.ht : Int), .int .i64 is.hv, .int .u64 (is.si : Int), .int .u64 (is.st : Int), .slice is.sd.a is.sd.b.length is.sd.c, .slice is.eo is.es.length is.ec] 30) w.heap.size (by simp)).trans (heap_alloc_new w (.cells #[.int .u64 (was.ht : Int), .int .i64 was.hv, .int .u64 (was.si : Int), .int .u64 (was.st : Int), .slice was.sd.a was.sd.b.length was.sd.c, .slice was.eo was.es.length was.ec] 30))
  have h1 := heap_alloc2_new w (.cells #[.int .u64 (was.ht : Int), .int .i64 was.hv, .int .u64 (was.si : Int), .int .u64 (was.st : Int), .slice was.sd.a was.sd.b.length was.sd.c, .slice was.eo was.es.length was.ec] 30) (.cells #[.int .u64 (is.ht : Int), .int .i64 is.hv, .int .u64 (is.si : Int), .int .u64 (is.st : Int), .slice is.sd.a is.sd.b.length is.sd.c, .slice is.eo is.es.length is.ec] 30)
  have hwE := hw.es
  have hiE := hi.es
  have hwl := hw.el
  have hil := hi.el
  have hisd := hi.sd
  have n1 := numL_len10 (v := is.ht) (by have := hi.ht; omega)
  have n3 := numL_len10 (v := is.si) (by have := hi.si; omega)
  have n4 := numL_len10 (v := is.st) (by have := hi.st; omega)
  have hnv : IntKind.u64.wrap is.hv = ((is.hv.toNat : Nat) : Int) := by rw [wrap_u64]; omega
  have n2 : (numL is.hv.toNat).length ≤ 10 := numL_len10 (by omega)
  obtain ⟨nv, hnv2⟩ : ∃ nv, nv = is.hv.toNat := ⟨_, rfl⟩
  rw [← hnv2] at hnv n2 hPRE
  have HD : Hid (diffB was.pl is.pl = PRE ++ (snapB was.pl is.pl ++ (numL (keepP was.pl is.pl) ++ ((is.es.drop (keepP was.pl is.pl)).map En.pe).flatMap entB))) := by
    show _ = _
    rw [hPRE, hnv2]
    unfold diffB
    rw [List.append_assoc, List.map_drop]
    rfl
  have hiec : is.es.length ≤ is.ec := by
    obtain ⟨_, _, e1, q1, q2⟩ := hiE.1.form
    simp only [Value.slice.injEq, List.length_map] at e1 q1
    omega
  have HBS := hid CB0
  have HCSn := hid CSn0
  have HwE := hid hwE
  have HiE := hid hiE
  have HRE := hid hrE
  have HPL : Hid (PRE.length ≤ 20) := by rw [hPRE, List.length_append]; show _ ≤ _; omega
  have HPRE := hid hPRE
  have HSD := hid hisd
  rw [HD.out] at hdl ⊢
  obtain ⟨SNB, hSNB⟩ : ∃ SNB, SNB = snapB was.pl is.pl := ⟨_, rfl⟩
  obtain ⟨KP, hKP⟩ : ∃ KP, KP = keepP was.pl is.pl := ⟨_, rfl⟩
  rw [← hSNB, ← hKP] at hdl ⊢
  have HSNB := hid hSNB
  have HKP := hid hKP
  have HLEN : Hid ((PRE ++ (SNB ++ (numL KP ++ ((is.es.drop KP).map En.pe).flatMap entB))).length ≤ 1000000000000) := Nat.le_trans hdl hlong
  obtain ⟨PS, hPS⟩ : ∃ PS, PS = PRE ++ SNB := ⟨_, rfl⟩
  have HPS := hid hPS
  clear hPS
  have HKL : Hid (KP ≤ is.es.length) := by have := (alike_le (behindP was.pl is.pl.si) is.pl.es).2; rw [hKP]; unfold keepP; show _ ≤ _; simpa [Lo.pl] using this
  clear hSNB hKP
  clear hw hi hr hlong hdl CB0 CSn0 hrs hrE hPRE hwE hiE hnv2 hisd HD
  simp only [Lo.v]
  go_enter Tryz.func67, Tryz.ntmps67
  go_upto_region 1 with fail
  generalize (w.alloc (.cells #[.int .u64 (was.ht : Int), .int .i64 was.hv, .int .u64 (was.si : Int), .int .u64 (was.st : Int), .slice was.sd.a was.sd.b.length was.sd.c, .slice was.eo was.es.length was.ec] 30)).alloc (.cells #[.int .u64 (is.ht : Int), .int .i64 is.hv, .int .u64 (is.si : Int), .int .u64 (is.st : Int), .slice is.sd.a is.sd.b.length is.sd.c, .slice is.eo is.es.length is.ec] 30) = w1 at *
  have HC : Hid (∀ V, Below w1.heap.size w1 V → (V.cell? ⟨w.heap.size, 0, none⟩ = some (.int .u64 (was.ht : Int)) ∧ V.cell? ⟨w.heap.size, 1, none⟩ = some (.int .i64 was.hv) ∧ V.cell? ⟨w.heap.size, 2, none⟩ = some (.int .u64 (was.si : Int)) ∧ V.cell? ⟨w.heap.size, 3, none⟩ = some (.int .u64 (was.st : Int)) ∧ V.cell? ⟨w.heap.size, 4, none⟩ = some (.slice was.sd.a was.sd.b.length was.sd.c) ∧ V.cell? ⟨w.heap.size, 5, none⟩ = some (.slice was.eo was.es.length was.ec)) ∧ (V.cell? ⟨w.heap.size + 1, 0, none⟩ = some (.int .u64 (is.ht : Int)) ∧ V.cell? ⟨w.heap.size + 1, 1, none⟩ = some (.int .i64 is.hv) ∧ V.cell? ⟨w.heap.size + 1, 2, none⟩ = some (.int .u64 (is.si : Int)) ∧ V.cell? ⟨w.heap.size + 1, 3, none⟩ = some (.int .u64 (is.st : Int)) ∧ V.cell? ⟨w.heap.size + 1, 4, none⟩ = some (.slice is.sd.a is.sd.b.length is.sd.c) ∧ V.cell? ⟨w.heap.size + 1, 5, none⟩ = some (.slice is.eo is.es.length is.ec))) := fun V h => ⟨six_cells ((h.block _ (lt_of_block h0)).trans h0), six_cells ((h.block _ (lt_of_block h1)).trans h1)⟩
  obtain ⟨S9, hS9⟩ : ∃ S9 : World → Prop, S9 = fun V => Below w1.heap.size w1 V := ⟨_, rfl⟩
  have HS : Hid (∀ V, Below w1.heap.size w1 V → S9 V) := fun V h => by rw [hS9]; exact h
  have hY := fun V (h : S9 V) => HC.out V (by rw [hS9] at h; exact h)
  have HY := hid hY
  have HAL : Hid (∀ V o, Below w1.heap.size w1 V → Below w1.heap.size w1 (V.alloc o)) := fun V o h => h.trans ((Below.refl w1.heap.size V).alloc h.size o)
  have HDW : Hid (∀ V, Below w1.heap.size w1 V → Below w1.heap.size w1 V.drew) := fun V h => h.trans ⟨rfl, rfl, rfl, Nat.le_refl _, fun _ _ => rfl⟩
  have HB := hid hb
  have HW1 : Hid (w.heap.size ≤ w1.heap.size) := hb.size
  have HTW : Hid (∀ V, Below w1.heap.size w1 V → Below w.heap.size w V) := fun V h => hb.trans (h.mono hb.size)
  clear hS9 hY hb h0 h1
  go_cut [5] from 9 to 19 (fun b wx => ∃ a c, b = .slice a PRE.length c ∧ Hid (wx.ownsRow w1.heap.size 5 1 (.slice a PRE.length c) PRE.length (PRE.map bv)) ∧ Hid (Below w1.heap.size w1 wx))
  case first =>
    have HWd := hid (HDW.out _ (Below.refl _ w1))
    refine wp_region_noPanic ?_
    refine wp_region_held_drew (S := S9) (by kernel_rfl) (HS.out _ HWd.out) (fun hHeld => ?_)
    generalize w1.drew = Wd at *
    have CN1 := hid (num_any is.ht Wd n1)
    refine wpAnyH_take (i := 0) (v := (.pointer (some ⟨w.heap.size + 1, 0, none⟩))) rfl (by kernel_rfl) (by kernel_rfl) (by kernel_rfl) (fun _ _ _ h => (show False from h).elim) ?xyVE1 ?xhVE1 ?xrVE1
    case xhVE1 => exact hHeld
    case xyVE1 => exact Or.inl ⟨by rfl, fun W9 hW => by clear hHeld; simp only [List.getElem_toArray, List.getElem_cons_succ, List.getElem_cons_zero]; go_simp⟩
    simp only [Act.put, List.getElem_toArray, List.getElem_cons_succ, List.getElem_cons_zero, List.setIfInBounds_toArray, List.set_cons_succ, List.set_cons_zero]
    refine wpAnyH_take (i := 1) (v := (.pointer (some ⟨w.heap.size + 1, 0, none⟩))) rfl (by kernel_rfl) (by kernel_rfl) (by kernel_rfl) (fun _ _ _ h => (show False from h).elim) ?xyVE2 ?xhVE2 ?xrVE2
    case xhVE2 => exact hHeld
    case xyVE2 => exact Or.inl ⟨by rfl, fun W9 hW => by clear hHeld; simp only [List.getElem_toArray, List.getElem_cons_succ, List.getElem_cons_zero]; go_simp⟩
    simp only [Act.put, List.getElem_toArray, List.getElem_cons_succ, List.getElem_cons_zero, List.setIfInBounds_toArray, List.set_cons_succ, List.set_cons_zero]
    refine wpAnyH_take (i := 2) (v := (.int .u64 (is.ht : Int))) rfl (by kernel_rfl) (by kernel_rfl) (by kernel_rfl) (fun _ _ _ h => (show False from h).elim) ?xyVE3 ?xhVE3 ?xrVE3
    case xhVE3 => exact hHeld
    case xyVE3 => exact Or.inl ⟨by rfl, fun W9 hW => by obtain ⟨⟨z0, z1, z2, z3, z4, z5⟩, ⟨y0, y1, y2, y3, y4, y5⟩⟩ := HY.out _ hW; clear hHeld; simp only [List.getElem_toArray, List.getElem_cons_succ, List.getElem_cons_zero]; go_simp⟩
    simp only [Act.put, List.getElem_toArray, List.getElem_cons_succ, List.getElem_cons_zero, List.setIfInBounds_toArray, List.set_cons_succ, List.set_cons_zero]
    refine wpAnyH_take (i := 4) (v := (.pointer (some ⟨w.heap.size + 1, 0, none⟩))) rfl (by kernel_rfl) (by kernel_rfl) (by kernel_rfl) (fun _ _ _ h => (show False from h).elim) ?xyVE4 ?xhVE4 ?xrVE4
    case xhVE4 => exact hHeld
    case xyVE4 => exact Or.inl ⟨by rfl, fun W9 hW => by clear hHeld; simp only [List.getElem_toArray, List.getElem_cons_succ, List.getElem_cons_zero]; go_simp⟩
    simp only [Act.put, List.getElem_toArray, List.getElem_cons_succ, List.getElem_cons_zero, List.setIfInBounds_toArray, List.set_cons_succ, List.set_cons_zero]
    refine wpAnyH_take (i := 5) (v := (.pointer (some ⟨w.heap.size + 1, 1, none⟩))) rfl (by kernel_rfl) (by kernel_rfl) (by kernel_rfl) (fun _ _ _ h => (show False from h).elim) ?xyVE5 ?xhVE5 ?xrVE5
    case xhVE5 => exact hHeld
    case xyVE5 => exact Or.inl ⟨by rfl, fun W9 hW => by clear hHeld; simp only [List.getElem_toArray, List.getElem_cons_succ, List.getElem_cons_zero]; go_simp⟩
    simp only [Act.put, List.getElem_toArray, List.getElem_cons_succ, List.getElem_cons_zero, List.setIfInBounds_toArray, List.set_cons_succ, List.set_cons_zero]
    refine wpAnyH_take (i := 6) (v := (.int .i64 is.hv)) rfl (by kernel_rfl) (by kernel_rfl) (by kernel_rfl) (fun _ _ _ h => (show False from h).elim) ?xyVE6 ?xhVE6 ?xrVE6
    case xhVE6 => exact hHeld
    case xyVE6 => exact Or.inl ⟨by rfl, fun W9 hW => by obtain ⟨⟨z0, z1, z2, z3, z4, z5⟩, ⟨y0, y1, y2, y3, y4, y5⟩⟩ := HY.out _ hW; clear hHeld; simp only [List.getElem_toArray, List.getElem_cons_succ, List.getElem_cons_zero]; go_simp⟩
    simp only [Act.put, List.getElem_toArray, List.getElem_cons_succ, List.getElem_cons_zero, List.setIfInBounds_toArray, List.set_cons_succ, List.set_cons_zero]
    refine wpAnyH_take (i := 7) (v := (.int .u64 (nv : Int))) rfl (by kernel_rfl) (by kernel_rfl) (by kernel_rfl) (fun _ _ _ h => (show False from h).elim) ?xyVE7 ?xhVE7 ?xrVE7
    case xhVE7 => exact hHeld
    case xyVE7 => exact Or.inl ⟨by rfl, fun W9 hW => by clear hHeld; simp only [List.getElem_toArray, List.getElem_cons_succ, List.getElem_cons_zero]; go_simp⟩
    simp only [Act.put, List.getElem_toArray, List.getElem_cons_succ, List.getElem_cons_zero, List.setIfInBounds_toArray, List.set_cons_succ, List.set_cons_zero]
    refine wpAnyH_ready (rs := [3]) (by kernel_rfl) (by simp) ?_
    refine AllReadyH.cons rfl (fun K hK => ?_) AllReadyH.nil
    go_simp
    go_wp2_with (first | (go_at_call 95; refine CN1.out.mono ?_; rintro e wA ⟨vA, rfl, hoA, hbA⟩; have HBA := hid (HWd.out.trans (hbA.mono HWd.out.size)); obtain ⟨aA, cA, rfl, hrA⟩ := gives_rd hoA; have HRA := hid hrA; clear hbA hrA; have HOA := hid (own_old hoA (Below.refl _ wA)); clear hoA; have CN2 := hid (num_any nv wA n2)))
    refine hK.out _ _ (HS.out _ HBA.out) (fun hHeld => ?_)
    clear hK K
    refine wpAnyH_ready (rs := [8]) (by kernel_rfl) (by simp) ?_
    refine AllReadyH.cons rfl (fun K hK => ?_) AllReadyH.nil
    go_simp
    go_wp2_with (first | (go_at_call 95; refine CN2.out.mono ?_; rintro e wE ⟨vE, rfl, hoE, hbE⟩; have HBE := hid (HBA.out.trans (hbE.mono HBA.out.size)); obtain ⟨aE, cE, rfl, hrE⟩ := gives_rd hoE; have HBS2 := hid (bss_lit (w := wE) [⟨aA, cA, numL is.ht⟩, ⟨aE, cE, numL nv⟩] (by simp) (fun r hr => by rcases List.mem_cons.1 hr with rfl | hr; exact HRA.out.old hbE; obtain rfl := List.mem_singleton.1 hr; exact hrE)); have HBF := hid (HAL.out _ (.cells #[.slice aA (numL is.ht).length cA, .slice aE (numL nv).length cE] 25) HBE.out); have CCF := hid (concat_any (some ⟨wE.heap.size, 0, none⟩) 2 2 [⟨aA, cA, numL is.ht⟩, ⟨aE, cE, numL nv⟩] (wE.alloc (.cells #[.slice aA (numL is.ht).length cA, .slice aE (numL nv).length cE] 25)) rfl HBS2.out (by simp [catB]; omega) (by omega)); clear hoE hbE hrE))
    refine hK.out _ _ (HS.out _ HBE.out) (fun hHeld => ?_)
    clear hK K
    refine wpAnyH_ready (rs := [9]) (by kernel_rfl) (by simp) ?_
    refine AllReadyH.cons rfl (fun K hK => ?_) AllReadyH.nil
    go_simp
    refine hK.out _ _ (HS.out _ HBF.out) (fun hHeld => ?_)
    clear hK K
    generalize wE.alloc (.cells #[.slice aA (numL is.ht).length cA, .slice aE (numL nv).length cE] 25) = wF at *
    refine wpAnyH_ready (rs := [10]) (by kernel_rfl) (by simp) ?_
    refine AllReadyH.cons rfl (fun K hK => ?_) AllReadyH.nil
    go_simp
    go_wp2_with (first | (go_at_call 94; refine CCF.out.mono ?_; rintro e wG ⟨vG, rfl, hoG, hbG⟩; have HBG := hid (HBF.out.trans (hbG.mono HBF.out.size)); have HOG : Hid (wG.ownsRow w1.heap.size 5 1 vG PRE.length (PRE.map bv)) := (by have h9 := ownsRow_base hoG HBF.out.size; simp only [List.flatMap_cons, List.flatMap_nil, List.append_nil] at h9; rw [← HPRE.out] at h9; exact h9); clear hoG hbG; obtain ⟨aG, cG, rfl⟩ := own_form HOG.out))
    refine hK.out _ _ (HS.out _ HBG.out) (fun hHeld => ?_)
    clear hK K
    refine wpAnyH_take (i := 11) (v := (.slice aG PRE.length cG)) rfl (by kernel_rfl) (by kernel_rfl) (by kernel_rfl) (fun _ _ _ h => (show False from h).elim) ?xyVE8 ?xhVE8 ?xrVE8
    case xhVE8 => exact hHeld
    case xyVE8 => exact Or.inl ⟨by rfl, fun W9 hW => by clear hHeld; simp only [List.getElem_toArray, List.getElem_cons_succ, List.getElem_cons_zero]; go_simp⟩
    simp only [Act.put, List.getElem_toArray, List.getElem_cons_succ, List.getElem_cons_zero, List.setIfInBounds_toArray, List.set_cons_succ, List.set_cons_zero]
    refine wpAnyH_done (by kernel_rfl) ?_ _
    refine NoPanic.normal ?_
    go_wp2_with fail
    go_meet
    exact ⟨_, _, rfl, HOG, HBG⟩
  case rest =>
  obtain ⟨oa, oc, rfl, HO, HBC⟩ := hcut
  obtain ⟨sb, hsb⟩ : ∃ sb, sb = decide (was.si = is.si ∧ was.st = is.st ∧ was.sd.b = is.sd.b) := ⟨_, rfl⟩
  have HSE1 : Hid (sb = true → SNB = numL 0) := fun h => by rw [HSNB.out]; exact if_pos (of_decide_eq_true (hsb.symm.trans h))
  have HSE2 : Hid (sb = false → SNB = numL 1 ++ (numL is.si ++ (numL is.st ++ (numL is.sd.b.length ++ is.sd.b)))) := fun h => by rw [HSNB.out]; exact if_neg (of_decide_eq_false (hsb.symm.trans h))
  have CS0 := HCSn.out _ (HTW.out _ HBC.out)
  rw [← hsb] at CS0
  have CS := hid CS0
  clear CS0 hsb
  obtain ⟨⟨z0, z1, z2, z3, z4, z5⟩, ⟨y0, y1, y2, y3, y4, y5⟩⟩ := HC.out _ HBC.out
  go_upto_if 24 with (first | (go_at_call 91; refine CS.out.mono ?_; rintro en w2 ⟨rfl, hb2⟩; have HB2 := hid (HBC.out.trans (hb2.mono HBC.out.size)); have HO2 := hid (own_old HO.out hb2); clear hb2))
  clear CS z0 z1 z2 z3 z4 z5 y0 y1 y2 y3 y4 y5
  go_cut [5] from 24 to 43 (fun b wx => ∃ a c, b = .slice a PS.length c ∧ Hid (wx.ownsRow w1.heap.size 5 1 (.slice a PS.length c) PS.length (PS.map bv)) ∧ Hid (Below w1.heap.size w1 wx))
  case first =>
    cases sb with
    | true =>
      have HSE := hid (HSE1.out rfl)
      have CN := hid (num_any 0 w2 (numL_len10 (by omega)))
      go_wp2_with (first | (go_at_call 95; refine CN.out.mono ?_; rintro e wN ⟨vN, rfl, hoN, hbN⟩; have HBN := hid (HB2.out.trans (hbN.mono HB2.out.size)); obtain ⟨aN, cN, rfl, hrN⟩ := gives_rd hoN; have HRN := hid hrN; have HON := hid (own_old HO2.out hbN); clear hbN hrN hoN) | (at_builtin; refine wp_app rfl _ _ 25 rfl w1.heap.size 5 Tryz.underlying25 (by kernel_rfl) _ _ _ rfl HON.out _ (numL 0) rfl HRN.out ?cb1 ?cb2 ?_))
      case cb1 => have := HPL.out; have := numL_len 0 0 (by omega); omega
      case cb2 => exact HBN.out.size
      intro x4 w4 o4 g4
      have HB4 : Hid (Below w1.heap.size w1 w4) := HBN.out.grown g4 HBN.out.size (fun j hj => (HON.out.lt j hj).1)
      have HO4 : Hid (w4.ownsRow w1.heap.size 5 1 x4 PS.length (PS.map bv)) := by show World.ownsRow _ _ _ _ _ _ _; rw [HPS.out, HSE.out, List.length_append, List.map_append]; exact o4
      obtain ⟨p4, q4, rfl⟩ := own_form HO4.out
      clear o4 g4
      go_wp2_with fail
      go_meet
      exact ⟨_, _, rfl, HO4, HB4⟩
    | false =>
      have HSE := hid (HSE2.out rfl)
      go_upto_region 4 with fail
      have HWd := hid (HDW.out _ HB2.out)
      have HOd : Hid (w2.drew.ownsRow w1.heap.size 5 1 (.slice oa PRE.length oc) PRE.length (PRE.map bv)) := HO2.out
      refine wp_region_noPanic ?_
      refine wp_region_held_drew (S := S9) (by kernel_rfl) (HS.out _ HWd.out) (fun hHeld => ?_)
      generalize w2.drew = Wd at *
      have CNa := hid (num_any 1 Wd (numL_len10 (by omega)))
      refine wpAnyH_take (i := 0) (v := (.slice oa PRE.length oc)) rfl (by kernel_rfl) (by kernel_rfl) (by kernel_rfl) (fun _ _ _ h => (show False from h).elim) ?xyVE9 ?xhVE9 ?xrVE9
      case xhVE9 => exact hHeld
      case xyVE9 => exact Or.inl ⟨by rfl, fun W9 hW => by clear hHeld; simp only [List.getElem_toArray, List.getElem_cons_succ, List.getElem_cons_zero]; go_simp⟩
      simp only [Act.put, List.getElem_toArray, List.getElem_cons_succ, List.getElem_cons_zero, List.setIfInBounds_toArray, List.set_cons_succ, List.set_cons_zero]
      refine wpAnyH_take (i := 2) (v := (.pointer (some ⟨w.heap.size + 1, 2, none⟩))) rfl (by kernel_rfl) (by kernel_rfl) (by kernel_rfl) (fun _ _ _ h => (show False from h).elim) ?xyVE10 ?xhVE10 ?xrVE10
      case xhVE10 => exact hHeld
      case xyVE10 => exact Or.inl ⟨by rfl, fun W9 hW => by clear hHeld; simp only [List.getElem_toArray, List.getElem_cons_succ, List.getElem_cons_zero]; go_simp⟩
      simp only [Act.put, List.getElem_toArray, List.getElem_cons_succ, List.getElem_cons_zero, List.setIfInBounds_toArray, List.set_cons_succ, List.set_cons_zero]
      refine wpAnyH_take (i := 3) (v := (.pointer (some ⟨w.heap.size + 1, 2, none⟩))) rfl (by kernel_rfl) (by kernel_rfl) (by kernel_rfl) (fun _ _ _ h => (show False from h).elim) ?xyVE11 ?xhVE11 ?xrVE11
      case xhVE11 => exact hHeld
      case xyVE11 => exact Or.inl ⟨by rfl, fun W9 hW => by clear hHeld; simp only [List.getElem_toArray, List.getElem_cons_succ, List.getElem_cons_zero]; go_simp⟩
      simp only [Act.put, List.getElem_toArray, List.getElem_cons_succ, List.getElem_cons_zero, List.setIfInBounds_toArray, List.set_cons_succ, List.set_cons_zero]
      refine wpAnyH_take (i := 4) (v := (.int .u64 (is.si : Int))) rfl (by kernel_rfl) (by kernel_rfl) (by kernel_rfl) (fun _ _ _ h => (show False from h).elim) ?xyVE12 ?xhVE12 ?xrVE12
      case xhVE12 => exact hHeld
      case xyVE12 => exact Or.inl ⟨by rfl, fun W9 hW => by obtain ⟨⟨z0, z1, z2, z3, z4, z5⟩, ⟨y0, y1, y2, y3, y4, y5⟩⟩ := HY.out _ hW; clear hHeld; simp only [List.getElem_toArray, List.getElem_cons_succ, List.getElem_cons_zero]; go_simp⟩
      simp only [Act.put, List.getElem_toArray, List.getElem_cons_succ, List.getElem_cons_zero, List.setIfInBounds_toArray, List.set_cons_succ, List.set_cons_zero]
      refine wpAnyH_take (i := 6) (v := (.pointer (some ⟨w.heap.size + 1, 2, none⟩))) rfl (by kernel_rfl) (by kernel_rfl) (by kernel_rfl) (fun _ _ _ h => (show False from h).elim) ?xyVE13 ?xhVE13 ?xrVE13
      case xhVE13 => exact hHeld
      case xyVE13 => exact Or.inl ⟨by rfl, fun W9 hW => by clear hHeld; simp only [List.getElem_toArray, List.getElem_cons_succ, List.getElem_cons_zero]; go_simp⟩
      simp only [Act.put, List.getElem_toArray, List.getElem_cons_succ, List.getElem_cons_zero, List.setIfInBounds_toArray, List.set_cons_succ, List.set_cons_zero]
      refine wpAnyH_take (i := 7) (v := (.pointer (some ⟨w.heap.size + 1, 3, none⟩))) rfl (by kernel_rfl) (by kernel_rfl) (by kernel_rfl) (fun _ _ _ h => (show False from h).elim) ?xyVE14 ?xhVE14 ?xrVE14
      case xhVE14 => exact hHeld
      case xyVE14 => exact Or.inl ⟨by rfl, fun W9 hW => by clear hHeld; simp only [List.getElem_toArray, List.getElem_cons_succ, List.getElem_cons_zero]; go_simp⟩
      simp only [Act.put, List.getElem_toArray, List.getElem_cons_succ, List.getElem_cons_zero, List.setIfInBounds_toArray, List.set_cons_succ, List.set_cons_zero]
      refine wpAnyH_take (i := 8) (v := (.int .u64 (is.st : Int))) rfl (by kernel_rfl) (by kernel_rfl) (by kernel_rfl) (fun _ _ _ h => (show False from h).elim) ?xyVE15 ?xhVE15 ?xrVE15
      case xhVE15 => exact hHeld
      case xyVE15 => exact Or.inl ⟨by rfl, fun W9 hW => by obtain ⟨⟨z0, z1, z2, z3, z4, z5⟩, ⟨y0, y1, y2, y3, y4, y5⟩⟩ := HY.out _ hW; clear hHeld; simp only [List.getElem_toArray, List.getElem_cons_succ, List.getElem_cons_zero]; go_simp⟩
      simp only [Act.put, List.getElem_toArray, List.getElem_cons_succ, List.getElem_cons_zero, List.setIfInBounds_toArray, List.set_cons_succ, List.set_cons_zero]
      refine wpAnyH_take (i := 10) (v := (.pointer (some ⟨w.heap.size + 1, 2, none⟩))) rfl (by kernel_rfl) (by kernel_rfl) (by kernel_rfl) (fun _ _ _ h => (show False from h).elim) ?xyVE16 ?xhVE16 ?xrVE16
      case xhVE16 => exact hHeld
      case xyVE16 => exact Or.inl ⟨by rfl, fun W9 hW => by clear hHeld; simp only [List.getElem_toArray, List.getElem_cons_succ, List.getElem_cons_zero]; go_simp⟩
      simp only [Act.put, List.getElem_toArray, List.getElem_cons_succ, List.getElem_cons_zero, List.setIfInBounds_toArray, List.set_cons_succ, List.set_cons_zero]
      refine wpAnyH_take (i := 11) (v := (.pointer (some ⟨w.heap.size + 1, 4, none⟩))) rfl (by kernel_rfl) (by kernel_rfl) (by kernel_rfl) (fun _ _ _ h => (show False from h).elim) ?xyVE17 ?xhVE17 ?xrVE17
      case xhVE17 => exact hHeld
      case xyVE17 => exact Or.inl ⟨by rfl, fun W9 hW => by clear hHeld; simp only [List.getElem_toArray, List.getElem_cons_succ, List.getElem_cons_zero]; go_simp⟩
      simp only [Act.put, List.getElem_toArray, List.getElem_cons_succ, List.getElem_cons_zero, List.setIfInBounds_toArray, List.set_cons_succ, List.set_cons_zero]
      refine wpAnyH_take (i := 12) (v := (.slice is.sd.a is.sd.b.length is.sd.c)) rfl (by kernel_rfl) (by kernel_rfl) (by kernel_rfl) (fun _ _ _ h => (show False from h).elim) ?xyVE18 ?xhVE18 ?xrVE18
      case xhVE18 => exact hHeld
      case xyVE18 => exact Or.inl ⟨by rfl, fun W9 hW => by obtain ⟨⟨z0, z1, z2, z3, z4, z5⟩, ⟨y0, y1, y2, y3, y4, y5⟩⟩ := HY.out _ hW; clear hHeld; simp only [List.getElem_toArray, List.getElem_cons_succ, List.getElem_cons_zero]; go_simp⟩
      simp only [Act.put, List.getElem_toArray, List.getElem_cons_succ, List.getElem_cons_zero, List.setIfInBounds_toArray, List.set_cons_succ, List.set_cons_zero]
      have HBd := HWd
      refine wpAnyH_ready (rs := [1]) (by kernel_rfl) (by simp) ?_
      refine AllReadyH.cons rfl (fun K hK => ?_) AllReadyH.nil
      go_simp
      go_wp2_with (first | (go_at_call 95; refine CNa.out.mono ?_; rintro e wP ⟨vP, rfl, hoP, hbP⟩; have HBP := hid (HBd.out.trans (hbP.mono HBd.out.size)); obtain ⟨aP, cP, rfl, hrP⟩ := gives_rd hoP; have HRP := hid hrP; have HBBP := hid hbP; clear hbP hrP hoP; have CNb := hid (num_any is.si wP n3)))
      refine hK.out _ _ (HS.out _ HBP.out) (fun hHeld => ?_)
      clear hK K
      refine wpAnyH_ready (rs := [5]) (by kernel_rfl) (by simp) ?_
      refine AllReadyH.cons rfl (fun K hK => ?_) AllReadyH.nil
      go_simp
      go_wp2_with (first | (go_at_call 95; refine CNb.out.mono ?_; rintro e wQ ⟨vQ, rfl, hoQ, hbQ⟩; have HBQ := hid (HBP.out.trans (hbQ.mono HBP.out.size)); obtain ⟨aQ, cQ, rfl, hrQ⟩ := gives_rd hoQ; have HRQ := hid hrQ; have HBBQ := hid hbQ; clear hbQ hrQ hoQ; have CNc := hid (num_any is.st wQ n4)))
      refine hK.out _ _ (HS.out _ HBQ.out) (fun hHeld => ?_)
      clear hK K
      refine wpAnyH_ready (rs := [9]) (by kernel_rfl) (by simp) ?_
      refine AllReadyH.cons rfl (fun K hK => ?_) AllReadyH.nil
      go_simp
      go_wp2_with (first | (go_at_call 95; refine CNc.out.mono ?_; rintro e wR ⟨vR, rfl, hoR, hbR⟩; have HBR := hid (HBQ.out.trans (hbR.mono HBQ.out.size)); obtain ⟨aR, cR, rfl, hrR⟩ := gives_rd hoR; have HRR := hid hrR; have HBBR := hid hbR; clear hbR hrR hoR; have CNt := hid (text_any _ is.sd.b wR ((HSD.out.old (HTW.out _ HBR.out)) : Rd wR (.slice is.sd.a is.sd.b.length is.sd.c) is.sd.b) (by omega))))
      refine hK.out _ _ (HS.out _ HBR.out) (fun hHeld => ?_)
      clear hK K
      refine wpAnyH_ready (rs := [13]) (by kernel_rfl) (by simp) ?_
      refine AllReadyH.cons rfl (fun K hK => ?_) AllReadyH.nil
      go_simp
      go_wp2_with (first | (go_at_call 96; refine CNt.out.mono ?_; rintro e wT ⟨vT, rfl, hoT, hbT⟩; have HBT := hid (HBR.out.trans (hbT.mono HBR.out.size)); obtain ⟨aT, cT, rfl, hrT⟩ := gives_rd hoT; have HRT := hid hrT; have HBBT := hid hbT; clear hbT hrT hoT; have HBU := hid (HAL.out _ (.cells #[.slice oa PRE.length oc, .slice aP (numL 1).length cP, .slice aQ (numL is.si).length cQ, .slice aR (numL is.st).length cR, .slice aT (textL is.sd.b).length cT] 25) HBT.out); have CCU := hid (concat_any (some ⟨wT.heap.size, 0, none⟩) 5 5 [⟨oa, oc, PRE⟩, ⟨aP, cP, numL 1⟩, ⟨aQ, cQ, numL is.si⟩, ⟨aR, cR, numL is.st⟩, ⟨aT, cT, textL is.sd.b⟩] (wT.alloc (.cells #[.slice oa PRE.length oc, .slice aP (numL 1).length cP, .slice aQ (numL is.si).length cQ, .slice aR (numL is.st).length cR, .slice aT (textL is.sd.b).length cT] 25)) rfl (bss_lit (w := wT) [⟨oa, oc, PRE⟩, ⟨aP, cP, numL 1⟩, ⟨aQ, cQ, numL is.si⟩, ⟨aR, cR, numL is.st⟩, ⟨aT, cT, textL is.sd.b⟩] (by simp) (five_rd (Rd.own (own_old (own_old (own_old (own_old HOd.out HBBP.out) HBBQ.out) HBBR.out) HBBT.out)) (((HRP.out.old HBBQ.out).old HBBR.out).old HBBT.out) ((HRQ.out.old HBBR.out).old HBBT.out) (HRR.out.old HBBT.out) HRT.out)) (by have := HPL.out; have := numL_len10 (v := 1) (by omega); have := numL_len10 (v := is.sd.b.length) (by omega); simp [catB, textL]; omega) (by omega))))
      refine hK.out _ _ (HS.out _ HBT.out) (fun hHeld => ?_)
      clear hK K
      refine wpAnyH_ready (rs := [14]) (by kernel_rfl) (by simp) ?_
      refine AllReadyH.cons rfl (fun K hK => ?_) AllReadyH.nil
      go_simp
      refine hK.out _ _ (HS.out _ HBU.out) (fun hHeld => ?_)
      clear hK K
      generalize wT.alloc (.cells #[.slice oa PRE.length oc, .slice aP (numL 1).length cP, .slice aQ (numL is.si).length cQ, .slice aR (numL is.st).length cR, .slice aT (textL is.sd.b).length cT] 25) = wU at *
      refine wpAnyH_ready (rs := [15]) (by kernel_rfl) (by simp) ?_
      refine AllReadyH.cons rfl (fun K hK => ?_) AllReadyH.nil
      go_simp
      go_wp2_with (first | (go_at_call 94; refine CCU.out.mono ?_; rintro e wG ⟨vG, rfl, hoG, hbG⟩; have HBG := hid (HBU.out.trans (hbG.mono HBU.out.size)); have HOG : Hid (wG.ownsRow w1.heap.size 5 1 vG PS.length (PS.map bv)) := (by have h9 := ownsRow_base hoG HBU.out.size; simp only [List.flatMap_cons, List.flatMap_nil, List.append_nil, textL] at h9; rw [HPS.out, HSE.out]; exact h9); clear hoG hbG; obtain ⟨aG, cG, rfl⟩ := own_form HOG.out))
      refine hK.out _ _ (HS.out _ HBG.out) (fun hHeld => ?_)
      clear hK K
      refine wpAnyH_take (i := 16) (v := (.slice aG PS.length cG)) rfl (by kernel_rfl) (by kernel_rfl) (by kernel_rfl) (fun _ _ _ h => (show False from h).elim) ?xyVE19 ?xhVE19 ?xrVE19
      case xhVE19 => exact hHeld
      case xyVE19 => exact Or.inl ⟨by rfl, fun W9 hW => by clear hHeld; simp only [List.getElem_toArray, List.getElem_cons_succ, List.getElem_cons_zero]; go_simp⟩
      simp only [Act.put, List.getElem_toArray, List.getElem_cons_succ, List.getElem_cons_zero, List.setIfInBounds_toArray, List.set_cons_succ, List.set_cons_zero]
      refine wpAnyH_done (by kernel_rfl) ?_ _
      refine NoPanic.normal ?_
      go_wp2_with fail
      go_meet
      exact ⟨_, _, rfl, HOG, HBG⟩
  case rest =>
  clear HO HBC
  obtain ⟨oa, oc, rfl, HO, HBC⟩ := hcut
  go_upto_region 5 with fail
  go_cut [6] from 44 to 51 (fun b wx => b = .int .i64 (KP : Int) ∧ Hid (Below wc.heap.size wc wx))
  case first =>
    have HWd := hid (HDW.out _ HBC.out)
    have HCd : Hid (Below wc.heap.size wc wc.drew) := ⟨rfl, rfl, rfl, Nat.le_refl _, fun _ _ => rfl⟩
    refine wp_region_noPanic ?_
    refine wp_region_held_drew (S := S9) (by kernel_rfl) (HS.out _ HWd.out) (fun hHeld => ?_)
    generalize wc.drew = Wd at *
    have CB := hid (HBS.out _ (HTW.out _ HWd.out))
    refine wpAnyH_take (i := 0) (v := (.agg #[.int .u64 (was.ht : Int), .int .i64 was.hv, .int .u64 (was.si : Int), .int .u64 (was.st : Int), .slice was.sd.a was.sd.b.length was.sd.c, .slice was.eo was.es.length was.ec])) rfl (by kernel_rfl) (by kernel_rfl) (by kernel_rfl) (fun _ _ _ h => (show False from h).elim) ?xyVE20 ?xhVE20 ?xrVE20
    case xhVE20 => exact hHeld
    case xyVE20 => exact Or.inl ⟨by rfl, fun W9 hW => by obtain ⟨⟨z0, z1, z2, z3, z4, z5⟩, ⟨y0, y1, y2, y3, y4, y5⟩⟩ := HY.out _ hW; clear hHeld; simp only [List.getElem_toArray, List.getElem_cons_succ, List.getElem_cons_zero]; go_simp⟩
    simp only [Act.put, List.getElem_toArray, List.getElem_cons_succ, List.getElem_cons_zero, List.setIfInBounds_toArray, List.set_cons_succ, List.set_cons_zero]
    refine wpAnyH_take (i := 1) (v := (.pointer (some ⟨w.heap.size + 1, 2, none⟩))) rfl (by kernel_rfl) (by kernel_rfl) (by kernel_rfl) (fun _ _ _ h => (show False from h).elim) ?xyVE21 ?xhVE21 ?xrVE21
    case xhVE21 => exact hHeld
    case xyVE21 => exact Or.inl ⟨by rfl, fun W9 hW => by clear hHeld; simp only [List.getElem_toArray, List.getElem_cons_succ, List.getElem_cons_zero]; go_simp⟩
    simp only [Act.put, List.getElem_toArray, List.getElem_cons_succ, List.getElem_cons_zero, List.setIfInBounds_toArray, List.set_cons_succ, List.set_cons_zero]
    refine wpAnyH_take (i := 2) (v := (.pointer (some ⟨w.heap.size + 1, 2, none⟩))) rfl (by kernel_rfl) (by kernel_rfl) (by kernel_rfl) (fun _ _ _ h => (show False from h).elim) ?xyVE22 ?xhVE22 ?xrVE22
    case xhVE22 => exact hHeld
    case xyVE22 => exact Or.inl ⟨by rfl, fun W9 hW => by clear hHeld; simp only [List.getElem_toArray, List.getElem_cons_succ, List.getElem_cons_zero]; go_simp⟩
    simp only [Act.put, List.getElem_toArray, List.getElem_cons_succ, List.getElem_cons_zero, List.setIfInBounds_toArray, List.set_cons_succ, List.set_cons_zero]
    refine wpAnyH_take (i := 3) (v := (.int .u64 (is.si : Int))) rfl (by kernel_rfl) (by kernel_rfl) (by kernel_rfl) (fun _ _ _ h => (show False from h).elim) ?xyVE23 ?xhVE23 ?xrVE23
    case xhVE23 => exact hHeld
    case xyVE23 => exact Or.inl ⟨by rfl, fun W9 hW => by obtain ⟨⟨z0, z1, z2, z3, z4, z5⟩, ⟨y0, y1, y2, y3, y4, y5⟩⟩ := HY.out _ hW; clear hHeld; simp only [List.getElem_toArray, List.getElem_cons_succ, List.getElem_cons_zero]; go_simp⟩
    simp only [Act.put, List.getElem_toArray, List.getElem_cons_succ, List.getElem_cons_zero, List.setIfInBounds_toArray, List.set_cons_succ, List.set_cons_zero]
    refine wpAnyH_take (i := 5) (v := (.pointer (some ⟨w.heap.size + 1, 5, none⟩))) rfl (by kernel_rfl) (by kernel_rfl) (by kernel_rfl) (fun _ _ _ h => (show False from h).elim) ?xyVE24 ?xhVE24 ?xrVE24
    case xhVE24 => exact hHeld
    case xyVE24 => exact Or.inl ⟨by rfl, fun W9 hW => by clear hHeld; simp only [List.getElem_toArray, List.getElem_cons_succ, List.getElem_cons_zero]; go_simp⟩
    simp only [Act.put, List.getElem_toArray, List.getElem_cons_succ, List.getElem_cons_zero, List.setIfInBounds_toArray, List.set_cons_succ, List.set_cons_zero]
    refine wpAnyH_take (i := 6) (v := (.slice is.eo is.es.length is.ec)) rfl (by kernel_rfl) (by kernel_rfl) (by kernel_rfl) (fun _ _ _ h => (show False from h).elim) ?xyVE25 ?xhVE25 ?xrVE25
    case xhVE25 => exact hHeld
    case xyVE25 => exact Or.inl ⟨by rfl, fun W9 hW => by obtain ⟨⟨z0, z1, z2, z3, z4, z5⟩, ⟨y0, y1, y2, y3, y4, y5⟩⟩ := HY.out _ hW; clear hHeld; simp only [List.getElem_toArray, List.getElem_cons_succ, List.getElem_cons_zero]; go_simp⟩
    simp only [Act.put, List.getElem_toArray, List.getElem_cons_succ, List.getElem_cons_zero, List.setIfInBounds_toArray, List.set_cons_succ, List.set_cons_zero]
    refine wpAnyH_ready (rs := [4]) (by kernel_rfl) (by simp) ?_
    refine AllReadyH.cons rfl (fun K hK => ?_) AllReadyH.nil
    go_simp
    go_wp2_with (first | (go_at_call 83; refine CB.out.mono ?_; unfold BehA; rintro e wA ⟨dd, ba, bn, bc, hdd, hbd, hbn, rfl, hE, hbA⟩; have HBA := hid (HWd.out.trans (hbA.mono HWd.out.size)); have HCA := hid (HCd.out.trans (hbA.mono HCd.out.size)); have CAl := hid (alike_any (was.es.drop dd) is.es ba is.eo bn is.es.length bc is.ec wA hbn rfl (hE.out.old hbA) (HiE.out.old (HTW.out _ HBA.out)) (by rw [hbn, List.length_drop]; omega) hil); rw [hbd] at CAl; clear hbA hE hbd hbn hdd))
    refine hK.out _ _ (HS.out _ HBA.out) (fun hHeld => ?_)
    clear hK K
    refine wpAnyH_ready (rs := [7]) (by kernel_rfl) (by simp) ?_
    refine AllReadyH.cons rfl (fun K hK => ?_) AllReadyH.nil
    go_simp
    go_wp2_with (first | (go_at_call 97; refine CAl.out.mono ?_; rintro e wE ⟨rfl, hbE⟩; have HBE := hid (HBA.out.trans (hbE.mono HBA.out.size)); have HCE := hid (HCA.out.trans (hbE.mono HCA.out.size)); clear hbE))
    refine hK.out _ _ (HS.out _ HBE.out) (fun hHeld => ?_)
    clear hK K
    have hkk : ((alikeP (behindP was.pl is.si) (is.es.map En.pe) : Nat) : Int) = (KP : Int) := by rw [HKP.out]; rfl
    rw [hkk]
    refine wpAnyH_take (i := 8) (v := (.int .i64 (KP : Int))) rfl (by kernel_rfl) (by kernel_rfl) (by kernel_rfl) (fun _ _ _ h => (show False from h).elim) ?xyVE26 ?xhVE26 ?xrVE26
    case xhVE26 => exact hHeld
    case xyVE26 => exact Or.inl ⟨by rfl, fun W9 hW => by clear hHeld; simp only [List.getElem_toArray, List.getElem_cons_succ, List.getElem_cons_zero]; go_simp⟩
    simp only [Act.put, List.getElem_toArray, List.getElem_cons_succ, List.getElem_cons_zero, List.setIfInBounds_toArray, List.set_cons_succ, List.set_cons_zero]
    refine wpAnyH_done (by kernel_rfl) ?_ _
    refine NoPanic.normal ?_
    go_wp2_with fail
    go_meet
    exact ⟨rfl, HCE⟩
  case rest =>
  have HBC0 := HBC
  have HO0 := HO
  clear HBC HO
  obtain ⟨rfl, HCC⟩ := hcut
  have HO := hid (own_old HO0.out HCC.out)
  have HBC := hid (HBC0.out.trans (HCC.out.mono HBC0.out.size))
  clear HO0 HBC0 HCC
  have n5 : (numL KP).length ≤ 10 := numL_len10 (by have := HKL.out; omega)
  have hkpw : IntKind.u64.wrap (KP : Int) = (KP : Int) := by rw [wrap_u64]; have := HKL.out; omega
  obtain ⟨P3, hP3⟩ : ∃ P3, P3 = PS ++ numL KP := ⟨_, rfl⟩
  have HP3 := hid hP3
  obtain ⟨ED, hED⟩ : ∃ ED, ED = is.es.drop KP := ⟨_, rfl⟩
  rw [← hED] at HLEN
  have HED := hid hED
  obtain ⟨TL, hTL⟩ : ∃ TL : Nat → List UInt8, TL = fun k => P3 ++ ((ED.take k).map En.pe).flatMap entB := ⟨_, rfl⟩
  have HT0 : Hid (TL 0 = P3) := by rw [hTL]; show _ = _; simp
  have HTn : Hid (∀ k e, ED[k]? = some e → TL (k + 1) = (TL k ++ numL e.t) ++ (numL e.r.b.length ++ e.r.b)) := fun k e he => by rw [hTL]; simp only [List.take_add_one, he]; simp [entB, En.pe, List.append_assoc]
  have HTl : Hid (∀ k, k ≤ ED.length → (TL k).length ≤ 1000000000000) := fun k hk => by
    refine Nat.le_trans ?_ HLEN.out
    rw [hTL, hP3, HPS.out]
    simp only [List.length_append]
    conv => rhs; rw [← List.take_append_drop k ED]
    rw [List.map_append, List.flatMap_append, List.length_append]
    omega
  have HTa : Hid (TL ED.length = PRE ++ (SNB ++ (numL KP ++ (ED.map En.pe).flatMap entB))) := by rw [hTL, hP3, HPS.out]; show _ = _; simp [List.take_length, List.append_assoc]
  have HPSL : Hid (PS.length ≤ 1000000000000) := by have := HLEN.out; rw [HPS.out]; show _ ≤ _; simp only [List.length_append] at this ⊢; omega
  obtain ⟨zo, zc, hzs, hzb, -⟩ := HiE.out.1.cut (P := Tryz.prog) (by decide) 28 63 Tryz.underlying28 (by kernel_rfl) KP (by rw [List.length_map]; exact HKL.out)
  rw [List.length_map] at hzs hzb
  obtain ⟨zn, hzn⟩ : ∃ zn, zn = is.es.length - KP := ⟨_, rfl⟩
  rw [← hzn] at hzs hzb
  have HZ : Hid (Ents w (.slice zo zn zc) ED ∧ zn = ED.length) := ⟨⟨by rw [hED, List.map_drop]; exact hzb, fun e he => HiE.out.2 e (List.mem_of_mem_drop (by rw [← hED]; exact he))⟩, by rw [hED, List.length_drop]; exact hzn⟩
  have hzc : zn ≤ zc := by
    obtain ⟨_, _, e1, q1, q2⟩ := HZ.out.1.1.form
    simp only [Value.slice.injEq, List.length_map] at e1 q1
    omega
  have hzl : zn ≤ 140737488355328 := by omega
  have hlz := fun W => run_len_slice (P := Tryz.prog) W 28 3 zo zn zc Tryz.underlying28
  have hkle : (KP : Int) ≤ (is.es.length : Int) := by have := HKL.out; omega
  have CN6 := hid (num_any KP wc n5)
  clear hP3 hED hTL hzb hzn
  go_upto_region 7 with (first | (go_at_call 95; refine CN6.out.mono ?_; rintro e wA ⟨vA, rfl, hoA, hbA⟩; have HBA := hid (HBC.out.trans (hbA.mono HBC.out.size)); obtain ⟨aA, cA, rfl, hrA⟩ := gives_rd hoA; have HRA := hid hrA; have HOA := hid (own_old HO.out hbA); clear hoA hbA hrA) | (at_builtin; refine wp_app rfl _ _ 25 rfl w1.heap.size 5 Tryz.underlying25 (by kernel_rfl) _ _ _ rfl HOA.out _ (numL KP) rfl HRA.out (by have := HPSL.out; omega) HBA.out.size ?_; intro x4 w4 o4 g4; have HB4 := hid (HBA.out.grown g4 HBA.out.size (fun j hj => (HOA.out.lt j hj).1)); have HO4 : Hid (w4.ownsRow w1.heap.size 5 1 x4 (TL 0).length ((TL 0).map bv)) := (by show World.ownsRow _ _ _ _ _ _ _; rw [HT0.out, HP3.out, List.length_append, List.map_append]; exact o4); obtain ⟨p4, q4, rfl⟩ := own_form HO4.out; clear o4 g4))
  obtain ⟨⟨z0, z1, z2, z3, z4, z5⟩, ⟨y0, y1, y2, y3, y4, y5⟩⟩ := HC.out _ HB4.out
  clear z0 z1 z2 z3 z4 z5 y0 y1 y2 y3 y4
  go_wp2_with fail
  go_loopw [5, 62] (fun x i wr => ∃ (k : Nat) (a : Option Addr) (c : Nat), k ≤ zn ∧ i = .int .i64 (k : Int) ∧ x = .slice a (TL k).length c ∧ Hid (wr.ownsRow w1.heap.size 5 1 x (TL k).length ((TL k).map bv)) ∧ Hid (Below w1.heap.size w1 wr)) (fun _ i _ => zn - (intOf i).toNat)
  case atStart => exact ⟨0, _, _, by omega, rfl, rfl, HO4, HB4⟩
  case round =>
    obtain ⟨k, xa, xc, hk, rfl, rfl, HO, HBr⟩ := hrel
    by_cases hlt : k < zn
    · have hA9 := List.getElem?_eq_getElem (l := ED) (i := k) (by have := HZ.out.2; omega)
      generalize ED[k]'_ = e at hA9
      obtain ⟨b1, o1, ea1, c10, c11, c12, r1⟩ := (HZ.out.1.old (HTW.out _ HBr.out)).get hA9
      subst ea1
      have hki : (k : Int) < (zn : Int) := by omega
      have hz : IntKind.i64.wrap ((k : Int) + 1) = (k : Int) + 1 := by rw [IntKind.wrap_i64]; omega
      have hpe := HRE.out (KP + k) e (by have h9 := hA9; rw [HED.out, List.getElem?_drop] at h9; exact h9)
      have HTN := hid (HTn.out k e hA9)
      have HTL1 := hid (HTl.out (k + 1) (by have := HZ.out.2; omega))
      have hn9 : (numL e.t).length ≤ 10 := numL_len10 (by have := hpe.2; omega)
      have hte := hpe.1
      obtain ⟨tk, htk⟩ : ∃ tk, tk = TL k := ⟨_, rfl⟩
      rw [← htk] at HO HTN ⊢
      have HTK := hid htk
      clear htk
      have htk2 : tk.length ≤ 1000000000000 := by have h1 := HTL1.out; rw [HTN.out, List.length_append, List.length_append] at h1; omega
      obtain ⟨t5, ht5⟩ : ∃ t5, t5 = tk ++ numL e.t := ⟨_, rfl⟩
      rw [← ht5] at HTN
      have HT5 := hid ht5
      have ht5l : t5.length ≤ 1000000000020 := by rw [ht5, List.length_append]; omega
      clear ht5
      have hba : Below wr.heap.size wr (wr.alloc (.cells #[.int .u64 (e.t : Int), .int .u64 (e.i : Int), .slice e.r.a e.r.b.length e.r.c] 63)) := (Below.refl _ _).alloc (Nat.le_refl _) _
      have hblk := heap_alloc_new wr (.cells #[.int .u64 (e.t : Int), .int .u64 (e.i : Int), .slice e.r.a e.r.b.length e.r.c] 63)
      have HBa := hid (HAL.out _ (.cells #[.int .u64 (e.t : Int), .int .u64 (e.i : Int), .slice e.r.a e.r.b.length e.r.c] 63) HBr.out)
      have HRw := hid (HZ.out.1.2 e (List.mem_of_getElem? hA9)).1
      have HOa := hid (own_old HO.out hba)
      have HLT : Hid (∀ j, (Value.slice xa tk.length xc).ownBlock = some j → j < wr.heap.size) := fun j hj => (HO.out.lt j hj).2
      clear r1 hA9 hpe HO
      obtain ⟨bk, hbk⟩ : ∃ bk, bk = wr.heap.size := ⟨_, rfl⟩
      have HBK := hid hbk
      go_upto_region 10 with fail
      rw [← hbk] at hblk ⊢
      clear hbk
      generalize wr.alloc (.cells #[.int .u64 (e.t : Int), .int .u64 (e.i : Int), .slice e.r.a e.r.b.length e.r.c] 63) = wq at *
      obtain ⟨e0, e1, e2⟩ := three_cells hblk
      have HBLK := hid hblk
      have CNe := hid (num_any e.t wq hn9)
      clear hblk hba c10 c11 c12 e1 e2
      go_upto_region 11 with (first | (go_at_call 95; refine CNe.out.mono ?_; rintro e' wA' ⟨vA', rfl, hoA, hbA⟩; have HBA' := hid (HBa.out.trans (hbA.mono HBa.out.size)); obtain ⟨aA', cA', rfl, hrA⟩ := gives_rd hoA; have HRA' := hid hrA; have HOA' := hid (own_old HOa.out hbA); have HBL' := hid ((hbA.block _ (lt_of_block HBLK.out)).trans HBLK.out); clear hoA hbA hrA) | (at_builtin; refine wp_app rfl _ _ 25 rfl w1.heap.size 5 Tryz.underlying25 (by kernel_rfl) _ _ _ rfl HOA'.out _ (numL e.t) rfl HRA'.out (by omega) HBA'.out.size ?_; intro x5 w5 o5 g5; have HB5 := hid (HBA'.out.grown g5 HBA'.out.size (fun j hj => (HOA'.out.lt j hj).1)); have HO5 : Hid (w5.ownsRow w1.heap.size 5 1 x5 t5.length (t5.map bv)) := (by show World.ownsRow _ _ _ _ _ _ _; rw [HT5.out, List.length_append, List.map_append]; exact o5); obtain ⟨p5, q5, rfl⟩ := own_form HO5.out; have HBL5 := hid (heap_kept g5 HBL'.out (fun h => by have := HLT.out _ h.symm; have := HBK.out; omega)); have HR5 := hid (HRw.out.old (HTW.out _ HB5.out)); have CTx := hid (text_any _ e.r.b w5 HR5.out (by omega)); have f2 := (three_cells HBL5.out).2.2; clear o5 g5))
      clear e0
      go_wp2_with (first | (go_at_call 96; refine CTx.out.mono ?_; rintro e' w6 ⟨v6, rfl, ho6, hb6⟩; have HB6 := hid (HB5.out.trans (hb6.mono HB5.out.size)); obtain ⟨a6, c6, rfl, hr6⟩ := gives_rd ho6; have HR6 := hid hr6; have HO6 := hid (own_old HO5.out hb6); clear ho6 hb6 hr6) | (at_builtin; refine wp_app rfl _ _ 25 rfl w1.heap.size 5 Tryz.underlying25 (by kernel_rfl) _ _ _ rfl HO6.out _ (textL e.r.b) rfl HR6.out (by have h8 := HTL1.out; rw [HTN.out] at h8; simp only [List.length_append, textL] at h8 ⊢; omega) HB6.out.size ?_; intro x7 w7 o7 g7; have HB7 := hid (HB6.out.grown g7 HB6.out.size (fun j hj => (HO6.out.lt j hj).1)); have HO7 : Hid (w7.ownsRow w1.heap.size 5 1 x7 (TL (k + 1)).length ((TL (k + 1)).map bv)) := (by show World.ownsRow _ _ _ _ _ _ _; rw [HTN.out, List.length_append, List.map_append]; exact o7); obtain ⟨p7, q7, rfl⟩ := own_form HO7.out; clear o7 g7))
      go_roundw
      case rel => exact ⟨k + 1, _, _, by omega, by go_num, rfl, HO7, HB7⟩
      case measure => first | (simp [intOf]; done) | (simp [intOf]; omega)
    · obtain rfl : k = zn := by omega
      have hki : ¬ ((k : Int) < (k : Int)) := by omega
      go_wp2_with fail
      go_ret
      refine ⟨_, rfl, ?_, HTW.out _ HBr.out⟩
      have h9 := ownsRow_base HO.out HW1.out
      have hfin : TL k = PRE ++ (SNB ++ (numL KP ++ ((is.es.drop KP).map En.pe).flatMap entB)) := by rw [HZ.out.2, HTa.out, HED.out]
      have h8 : ∀ L, L = TL k → wr.ownsRow w.heap.size 5 1 (.slice xa (TL k).length xc) L.length (L.map bv) := fun L h => by rw [h]; exact h9
      exact h8 _ (by rw [hfin, List.map_drop])
end Go.Proofs.YtddnleofflobhaaGreatDoor

