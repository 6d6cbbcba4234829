import Derived.Deep.CutRange
import Derived.WalkKit
import Derived.OpenShut
import Derived.Test.YtddnleofflobhaaGreatDoorRows
import Derived.WalkSpells
import Derived.WalkLawsBesides
import Derived.Laws.AppendOwnNone
import Derived.BigQuiet
import Derived.Deep.QuietTactic
import Derived.Deep.MidRow
import Derived.Laws.MakeOwn
import Derived.Deep.CutBlock
import Derived.Sort.CutIn
import Derived.RangeFuncNested
import Derived.RangeFuncBound
import Derived.RangeFuncCalls
import Derived.RangeFuncLeaves
import Derived.RangeFuncBox
import Derived.Shelf.Abstract
import Derived.Shelf.RegionOpen
import Derived.OwnWalkIn
import Derived.TacticsInMore
import Derived.LoopNIn
import Derived.LoopIn
import Derived.OrdersIn
import Derived.LaidEql
import Derived.Stop.Asserts
import Derived.RowKitTokens
import Derived.Lib.Bytes
import Derived.Deep.RegionHeld3
import Derived.Deep.WholeRow
import Derived.BigRegion
import Derived.Great.BuildSlice
import Derived.Deep.AppendLies
import Derived.StillTailTactics
import Derived.Deep.RegionLaw
import Derived.Great.FillDense
import Derived.Laws.Tables
import Derived.LoopN
import Derived.Deep.OwnRows
import Derived.OwnWalk
import Derived.Deep.Slices
import Derived.Lib.AppendZeros
import Derived.Deep.LoopGhost
import Derived.Deep.RegionWith
import Derived.ArgAppend
import Derived.Lib.SliceRun
import Derived.Deep.RegionHeldLaw
import Derived.ProofKit
import Derived.Deep.Matrix
import Derived.Deep.Grids
import Derived.Test.YtddnleofflobhaaGreatDoorVG1
import Derived.Test.YtddnleofflobhaaGreatDoorVG2
import Derived.Test.YtddnleofflobhaaGreatDoorVG3
import Derived.Test.YtddnleofflobhaaGreatDoorVG4
import Derived.Test.YtddnleofflobhaaGreatDoorVG5
import Derived.Test.YtddnleofflobhaaGreatDoorVG6
import Derived.Test.YtddnleofflobhaaGreatDoorVG7
import Derived.Test.YtddnleofflobhaaGreatDoorVG8
import Derived.Test.YtddnleofflobhaaGreatDoorVG9
import Derived.Test.YtddnleofflobhaaGreatDoorVG10
import Derived.Test.YtddnleofflobhaaGreatDoorVG11
import Derived.Test.YtddnleofflobhaaGreatDoorVG12
import Derived.Test.YtddnleofflobhaaGreatDoorVG13
import Derived.Test.YtddnleofflobhaaGreatDoorVG14
import Derived.Test.YtddnleofflobhaaGreatDoorVG15
import Derived.Test.YtddnleofflobhaaGreatDoorVG16
import Derived.Test.YtddnleofflobhaaGreatDoorVG17
import Derived.Test.YtddnleofflobhaaGreatDoorVG18
set_option linter.unusedVariables false
set_option linter.unusedSimpArgs false
set_option linter.unusedVariables false
set_option linter.unusedSimpArgs false
set_option maxRecDepth 100000
namespace Go.Proofs.YtddnleofflobhaaGreatDoor
open Go.RowKit Go.Deep

set_option maxHeartbeats 16000000 in
theorem vclone_any (l : Lo) (w : World) (hl : LoAt w l) (hmax : l.es.length ≤ 1000000000000) : Calls Tryz.prog 40 #[l.v] w (CpA l w) := by
  have HL0 := hid hl
  have hb : Below w.heap.size w ((w.alloc (.cells #[.int .u64 (l.ht : Int), .int .i64 l.hv, .int .u64 (l.si : Int), .int .u64 (l.st : Int), .slice l.sd.a l.sd.b.length l.sd.c, .slice l.eo l.es.length l.ec] 30)).alloc (.cells #[.int .u64 0, .int .i64 0, .int .u64 0, .int .u64 0, .slice none 0 0, .slice none 0 0] 30)) := ((Below.refl _ _).alloc (Nat.le_refl _) _).alloc (by simp) _
  have h0 := (Below.heap_alloc (w.alloc (.cells #[.int .u64 (l.ht : Int), .int .i64 l.hv, .int .u64 (l.si : Int), .int .u64 (l.st : Int), .slice l.sd.a l.sd.b.length l.sd.c, .slice l.eo l.es.length l.ec] 30)) (.cells #[.int .u64 0, .int .i64 0, .int .u64 0, .int .u64 0, .slice none 0 0, .slice none 0 0] 30) w.heap.size (by simp)).trans (heap_alloc_new w (.cells #[.int .u64 (l.ht : Int), .int .i64 l.hv, .int .u64 (l.si : Int), .int .u64 (l.st : Int), .slice l.sd.a l.sd.b.length l.sd.c, .slice l.eo l.es.length l.ec] 30))
  have h1 := heap_alloc2_new w (.cells #[.int .u64 (l.ht : Int), .int .i64 l.hv, .int .u64 (l.si : Int), .int .u64 (l.st : Int), .slice l.sd.a l.sd.b.length l.sd.c, .slice l.eo l.es.length l.ec] 30) (.cells #[.int .u64 0, .int .i64 0, .int .u64 0, .int .u64 0, .slice none 0 0, .slice none 0 0] 30)
  have hs1 : ((w.alloc (.cells #[.int .u64 (l.ht : Int), .int .i64 l.hv, .int .u64 (l.si : Int), .int .u64 (l.st : Int), .slice l.sd.a l.sd.b.length l.sd.c, .slice l.eo l.es.length l.ec] 30)).alloc (.cells #[.int .u64 0, .int .i64 0, .int .u64 0, .int .u64 0, .slice none 0 0, .slice none 0 0] 30)).heap.size = w.heap.size + 2 := by simp
  obtain ⟨n, hn⟩ : ∃ n, n = l.es.length := ⟨_, rfl⟩
  have HN := hid hn
  simp only [Lo.v]
  rw [← hn] at h0 h1 hs1 hb hmax ⊢
  clear hl hn
  obtain ⟨eo0, heo0⟩ : ∃ eo0, eo0 = l.eo := ⟨_, rfl⟩
  have HE0 : Hid (Ents w (.slice eo0 n l.ec) l.es) := by show Ents _ _ _; rw [heo0, HN.out]; exact HL0.out.es
  rw [← heo0] at h0 h1 hs1 hb ⊢
  clear heo0
  go_enter Tryz.func40, Tryz.ntmps40
  go_upto_region 1 with fail
  generalize (w.alloc (.cells #[.int .u64 (l.ht : Int), .int .i64 l.hv, .int .u64 (l.si : Int), .int .u64 (l.st : Int), .slice l.sd.a l.sd.b.length l.sd.c, .slice eo0 n l.ec] 30)).alloc (.cells #[.int .u64 0, .int .i64 0, .int .u64 0, .int .u64 0, .slice none 0 0, .slice none 0 0] 30) = w1 at *
  have HB := hid hb
  have HS1 := hid hs1
  have H0 := hid h0
  have H1 := hid h1
  have CB : Hid (Calls Tryz.prog 61 #[.slice l.sd.a l.sd.b.length l.sd.c] w1 (Gives 5 w1 l.sd.b)) := hid (clone_any w1 _ _ (HL0.out.sd.old hb) HL0.out.sl)
  obtain ⟨z0, z1, z2, z3, z4, z5⟩ := six_cells h0
  clear hb hs1 h0 h1 z0 z1 z2 z3 z5
  go_upto_region 2 with (first | (go_at_call 61; refine CB.out.mono ?_; rintro en wA ⟨vA, rfl, hoA, hbA⟩; have HOA := hid hoA; obtain ⟨sa, sc, rfl, hrA⟩ := gives_rd hoA; have HRA := hid hrA; have HBA := hid hbA; have hA0 := (hbA.block _ (lt_of_block H0.out)).trans H0.out; have HA0 := hid hA0; obtain ⟨r0, r1, r2, r3, r4, r5⟩ := six_cells hA0; have f4 : wA.frozen? ⟨w.heap.size, 4, none⟩ = false := (by simp [World.frozen?, hA0]); clear hoA hrA hbA hA0 r0 r1 r2 r3 r5))
  have HSA : Hid (∀ a, sa = some a → w1.heap.size ≤ a.block) := hid (fun a ha => by subst ha; exact (HOA.out.lt a.block rfl).1)
  have hk4 := Keep.set (X := fun j => j = w.heap.size) wA ⟨w.heap.size, 4, none⟩ (.slice sa l.sd.b.length sc) rfl
  have hw1 : w1.heap.size = w.heap.size + 2 := HS1.out
  have hA1 : w1.heap.size ≤ wA.heap.size := HBA.out.size
  have hBw : Below w.heap.size w (wA.setCell ⟨w.heap.size, 4, none⟩ (.slice sa l.sd.b.length sc)) := (HB.out.trans (HBA.out.mono HB.out.size)).trans (hk4.below (HB.out.trans (HBA.out.mono HB.out.size)).size (fun j e => by rw [e]; omega))
  have h2 : (wA.setCell ⟨w.heap.size, 4, none⟩ (.slice sa l.sd.b.length sc)).heap[w.heap.size]? = some (.cells #[.int .u64 (l.ht : Int), .int .i64 l.hv, .int .u64 (l.si : Int), .int .u64 (l.st : Int), .slice sa l.sd.b.length sc, .slice eo0 n l.ec] 30 (0, 0)) := set_at (k := 4) (.slice sa l.sd.b.length sc) HA0.out
  have hz2 : (wA.setCell ⟨w.heap.size, 4, none⟩ (.slice sa l.sd.b.length sc)).heap[w.heap.size + 1]? = some (.cells #[.int .u64 0, .int .i64 0, .int .u64 0, .int .u64 0, .slice none 0 0, .slice none 0 0] 30 (0, 0)) := (hk4.block _ (by omega) (by omega)).trans ((HBA.out.block _ (lt_of_block H1.out)).trans H1.out)
  have hr2 : Rd (wA.setCell ⟨w.heap.size, 4, none⟩ (.slice sa l.sd.b.length sc)) (.slice sa l.sd.b.length sc) l.sd.b := HRA.out.keep hk4 (fun hne j hj e => off_log HA0.out HRA.out hne j hj e)
  have hsz : w1.heap.size ≤ (wA.setCell ⟨w.heap.size, 4, none⟩ (.slice sa l.sd.b.length sc)).heap.size := by simp; omega
  have hwA : wA.heap.size ≤ (wA.setCell ⟨w.heap.size, 4, none⟩ (.slice sa l.sd.b.length sc)).heap.size := by simp
  have HSA2 : Hid (∀ a, l.sd.b ≠ [] → sa = some a → a.block < (wA.setCell ⟨w.heap.size, 4, none⟩ (.slice sa l.sd.b.length sc)).heap.size) := hid (fun a hne ha => by have := rd_block HRA.out hne a ha; omega)
  generalize wA.setCell ⟨w.heap.size, 4, none⟩ (.slice sa l.sd.b.length sc) = wB at *
  have HBw := hid hBw
  have H2 := hid h2
  have HZ2 := hid hz2
  have HR2 := hid hr2
  have HSZ := hid hsz
  have CE0 := cloneE_any (.slice eo0 n l.ec) (l.es.map rowE) wB (HE0.out.1.old hBw) (by rw [List.length_map]; have := HN.out; omega)
  rw [List.length_map, ← HN.out] at CE0
  have CE := hid CE0
  obtain ⟨z0, z1, z2, z3, z4', z5⟩ := six_cells h2
  clear CE0 hBw h2 hz2 hr2 hsz hk4 hA1 hwA z0 z1 z2 z3 z4 z4' f4
  go_upto_region 3 with (first | (go_at_call 62; refine CE.out.mono ?_; rintro en wC ⟨yC, rfl, hoC, hbC⟩; have HOC0 := hid hoC; obtain ⟨yo, yc, rfl⟩ := own_form hoC; have HBC := hid hbC; have hC0 := (hbC.block _ (lt_of_block H2.out)).trans H2.out; have HC0 := hid hC0; obtain ⟨r0, r1, r2, r3, r4, r5⟩ := six_cells hC0; have f5 : wC.frozen? ⟨w.heap.size, 5, none⟩ = false := (by simp [World.frozen?, hC0]); clear hoC hbC hC0 r0 r1 r2 r3 r4))
  have hk5 := Keep.set (X := fun j => j = w.heap.size) wC ⟨w.heap.size, 5, none⟩ (.slice yo n yc) rfl
  have hC1 : wB.heap.size ≤ wC.heap.size := HBC.out.size
  have hSZ := HSZ.out
  have hBw : Below w.heap.size w (wC.setCell ⟨w.heap.size, 5, none⟩ (.slice yo n yc)) := (HBw.out.trans (HBC.out.mono HBw.out.size)).trans (hk5.below (HBw.out.trans (HBC.out.mono HBw.out.size)).size (fun j e => by rw [e]; omega))
  have h3 : (wC.setCell ⟨w.heap.size, 5, none⟩ (.slice yo n yc)).heap[w.heap.size]? = some (.cells #[.int .u64 (l.ht : Int), .int .i64 l.hv, .int .u64 (l.si : Int), .int .u64 (l.st : Int), .slice sa l.sd.b.length sc, .slice yo n yc] 30 (0, 0)) := set_at (k := 5) (.slice yo n yc) HC0.out
  have hz3 : (wC.setCell ⟨w.heap.size, 5, none⟩ (.slice yo n yc)).heap[w.heap.size + 1]? = some (.cells #[.int .u64 0, .int .i64 0, .int .u64 0, .int .u64 0, .slice none 0 0, .slice none 0 0] 30 (0, 0)) := (hk5.block _ (by omega) (by omega)).trans ((HBC.out.block _ (lt_of_block HZ2.out)).trans HZ2.out)
  have hr3 : Rd (wC.setCell ⟨w.heap.size, 5, none⟩ (.slice yo n yc)) (.slice sa l.sd.b.length sc) l.sd.b := (HR2.out.old HBC.out).keep hk5 (fun hne j hj e => off_log HC0.out (HR2.out.old HBC.out) hne j hj e)
  have hcl : ClL wB.heap.size (wC.setCell ⟨w.heap.size, 5, none⟩ (.slice yo n yc)) l.es l.es yo yc 0 := ClL.start HE0.out hBw (by omega) (by rw [← HN.out]; exact own_keep HOC0.out hk5 (fun j hj e => by have := (HOC0.out.lt j hj).1; omega))
  have hWD : wB.heap.size ≤ (wC.setCell ⟨w.heap.size, 5, none⟩ (.slice yo n yc)).heap.size := by simp; omega
  generalize wC.setCell ⟨w.heap.size, 5, none⟩ (.slice yo n yc) = wD at *
  have HI0 : Hid (Below w.heap.size w wD ∧ wD.heap[w.heap.size + 1]? = some (.cells #[.int .u64 0, .int .i64 0, .int .u64 0, .int .u64 0, .slice none 0 0, .slice none 0 0] 30 (0, 0)) ∧ Rd wD (.slice sa l.sd.b.length sc) l.sd.b ∧ ClL wB.heap.size wD l.es l.es yo yc 0) := hid ⟨hBw, hz3, hr3, hcl⟩
  have HWD : Hid (wB.heap.size ≤ wD.heap.size) := hid hWD
  have HLY : Hid (wD.heap[w.heap.size]? = some (.cells #[.int .u64 (l.ht : Int), .int .i64 l.hv, .int .u64 (l.si : Int), .int .u64 (l.st : Int), .slice sa l.sd.b.length sc, .slice yo n yc] 30 (0, 0))) := hid h3
  obtain ⟨z0, z1, z2, z3, z4', z5'⟩ := six_cells h3
  have hlen := fun W => run_len_slice (P := Tryz.prog) W 28 3 yo n yc Tryz.underlying28
  clear hBw hz3 hr3 hcl h3 hk5 hC1 z0 z1 z2 z3 z4' z5 f5 r5
  go_wp2_with fail
  go_loopw [17] (fun i wr => ∃ (m : Nat) (F : List En), m ≤ n ∧ i = .int .i64 (m : Int) ∧ Hid (Below w.heap.size w wr ∧ wB.heap.size ≤ wr.heap.size) ∧ Hid (wr.heap[w.heap.size]? = some (.cells #[.int .u64 (l.ht : Int), .int .i64 l.hv, .int .u64 (l.si : Int), .int .u64 (l.st : Int), .slice sa l.sd.b.length sc, .slice yo n yc] 30 (0, 0))) ∧ Hid (wr.heap[w.heap.size + 1]? = some (.cells #[.int .u64 0, .int .i64 0, .int .u64 0, .int .u64 0, .slice none 0 0, .slice none 0 0] 30 (0, 0))) ∧ Hid (Rd wr (.slice sa l.sd.b.length sc) l.sd.b) ∧ Hid (ClL wB.heap.size wr l.es F yo yc m)) (fun i _ => n - (intOf i).toNat)
  case atStart => exact ⟨0, l.es, by omega, rfl, ⟨HI0.out.1, HWD.out⟩, HLY.out, HI0.out.2.1, HI0.out.2.2.1, HI0.out.2.2.2⟩
  case round =>
    obtain ⟨m, F, hm, rfl, HBr, HY, HZ, HRd, HCL⟩ := hrel
    obtain ⟨q0, q1, q2, q3, q4, q5⟩ := six_cells HY.out
    have hFl : F.length = n := HCL.out.len.trans HN.out.symm
    have HFl := hid hFl
    by_cases hlt : m < n
    · have hki : (m : Int) < (n : Int) := by omega
      have hz : IntKind.i64.wrap ((m : Int) + 1) = (m : Int) + 1 := by rw [IntKind.wrap_i64]; omega
      have hA9 := List.getElem?_eq_getElem (l := F) (i := m) (by omega)
      generalize F[m]'_ = e at hA9
      rcases HCL.out.own.2 with ⟨e1, e0⟩ | ⟨gb, cap, cur, e1, e2, e3, e4, e5, e6, e7⟩
      · omega
      simp only [Value.slice.injEq, true_and] at e1
      obtain ⟨rfl, rfl⟩ := e1
      have HG3 := hid e3
      have hgl : gb < wr.heap.size := lt_of_block e3
      have HGB : Hid (wB.heap.size ≤ gb ∧ gb < wr.heap.size) := hid ⟨e2, hgl⟩
      clear e2 e3 e5 e6 e7 hgl
      have hEn := ents_own (B := wB.heap.size) HCL.out.own HCL.out.each
      obtain ⟨b1, o1, ea1, c10, c11, c12, r1⟩ := hEn.get hA9
      cases ea1
      simp only [Nat.zero_add] at c12
      have HC12 := hid c12
      have hyc : n ≤ yc := by omega
      have HG := hid hA9
      have HEI := hid (HCL.out.each e (List.mem_of_getElem? hA9)).2
      have hWd : Below wr.heap.size wr wr.drew := ⟨rfl, rfl, rfl, Nat.le_refl _, fun _ _ => rfl⟩
      have c12d := (World.cell?_of_block (w := wr) (a := ⟨gb, m * 3 + 2, none⟩) (hWd.block _ HGB.out.2)).trans c12
      obtain ⟨S9, hS9⟩ : ∃ S9 : World → Prop, S9 = fun V => V.heap[w.heap.size]? = wr.heap[w.heap.size]? := ⟨_, rfl⟩
      have HQ : Hid (∀ V, S9 V → V.cell? ⟨w.heap.size, 5, none⟩ = some (.slice (some ⟨gb, 0, none⟩) n yc)) := hid fun V h => by rw [hS9] at h; exact (World.cell?_of_block (w := wr) (a := ⟨w.heap.size, 5, none⟩) h).trans q5
      have HS : Hid (∀ V, V.heap[w.heap.size]? = wr.heap[w.heap.size]? → S9 V) := hid fun V h => by rw [hS9]; exact h
      have CBe : Hid (∀ W, Below wr.heap.size wr W → Calls Tryz.prog 61 #[.slice e.r.a e.r.b.length e.r.c] W (Gives 5 W e.r.b)) := hid fun W hW => clone_any W _ _ (r1.old hW) HEI.out.2.2
      go_upto_region 6 with fail
      have HWd := hid hWd
      have CBd := hid (CBe.out _ hWd)
      clear hS9 hWd c10 c11 c12 r1 hA9 hEn q0 q1 q2 q3 q4 q5 e4
      refine wp_region_noPanic ?_
      refine wp_region_held_drew (S := S9) (by kernel_rfl) (HS.out _ rfl) (fun hHeld => ?_)
      have HDW : Hid (wr.drew.heap[w.heap.size]? = wr.heap[w.heap.size]?) := hid rfl
      generalize wr.drew = Wd at *
      refine wpAnyH_take (i := 0) (v := (.pointer (some ⟨w.heap.size, 5, none⟩))) rfl (by kernel_rfl) (by kernel_rfl) (by kernel_rfl) (fun _ _ _ h => (show False from h).elim) ?xyVR1 ?xhVR1 ?xrVR1
      case xhVR1 => exact hHeld
      case xyVR1 => exact Or.inl ⟨by rfl, fun W9 hW => by clear hHeld; simp only [List.getElem_toArray, List.getElem_cons_succ, List.getElem_cons_zero]; go_simp⟩
      simp only [Act.put, List.getElem_toArray, List.getElem_cons_succ, List.getElem_cons_zero, List.setIfInBounds_toArray, List.set_cons_succ, List.set_cons_zero]
      refine wpAnyH_take (i := 1) (v := (.slice (some ⟨gb, 0, none⟩) n yc)) rfl (by kernel_rfl) (by kernel_rfl) (by kernel_rfl) (fun _ _ _ h => (show False from h).elim) ?xyVR2 ?xhVR2 ?xrVR2
      case xhVR2 => exact hHeld
      case xyVR2 => exact Or.inl ⟨by rfl, fun W9 hW => by have y5 := HQ.out _ hW; clear hHeld; simp only [List.getElem_toArray, List.getElem_cons_succ, List.getElem_cons_zero]; go_simp⟩
      simp only [Act.put, List.getElem_toArray, List.getElem_cons_succ, List.getElem_cons_zero, List.setIfInBounds_toArray, List.set_cons_succ, List.set_cons_zero]
      refine wpAnyH_take (i := 2) (v := (.int .i64 (m : Int))) rfl (by kernel_rfl) (by kernel_rfl) (by kernel_rfl) (fun _ _ _ h => (show False from h).elim) ?xyVR3 ?xhVR3 ?xrVR3
      case xhVR3 => exact hHeld
      case xyVR3 => exact Or.inl ⟨by rfl, fun W9 hW => by clear hHeld; simp only [List.getElem_toArray, List.getElem_cons_succ, List.getElem_cons_zero]; go_simp⟩
      simp only [Act.put, List.getElem_toArray, List.getElem_cons_succ, List.getElem_cons_zero, List.setIfInBounds_toArray, List.set_cons_succ, List.set_cons_zero]
      refine wpAnyH_take (i := 3) (v := (.pointer (some ⟨w.heap.size, 5, none⟩))) rfl (by kernel_rfl) (by kernel_rfl) (by kernel_rfl) (fun _ _ _ h => (show False from h).elim) ?xyVR4 ?xhVR4 ?xrVR4
      case xhVR4 => exact hHeld
      case xyVR4 => exact Or.inl ⟨by rfl, fun W9 hW => by clear hHeld; simp only [List.getElem_toArray, List.getElem_cons_succ, List.getElem_cons_zero]; go_simp⟩
      simp only [Act.put, List.getElem_toArray, List.getElem_cons_succ, List.getElem_cons_zero, List.setIfInBounds_toArray, List.set_cons_succ, List.set_cons_zero]
      refine wpAnyH_take (i := 4) (v := (.slice (some ⟨gb, 0, none⟩) n yc)) rfl (by kernel_rfl) (by kernel_rfl) (by kernel_rfl) (fun _ _ _ h => (show False from h).elim) ?xyVR5 ?xhVR5 ?xrVR5
      case xhVR5 => exact hHeld
      case xyVR5 => exact Or.inl ⟨by rfl, fun W9 hW => by have y5 := HQ.out _ hW; clear hHeld; simp only [List.getElem_toArray, List.getElem_cons_succ, List.getElem_cons_zero]; go_simp⟩
      simp only [Act.put, List.getElem_toArray, List.getElem_cons_succ, List.getElem_cons_zero, List.setIfInBounds_toArray, List.set_cons_succ, List.set_cons_zero]
      refine wpAnyH_take (i := 5) (v := (.int .i64 (m : Int))) rfl (by kernel_rfl) (by kernel_rfl) (by kernel_rfl) (fun _ _ _ h => (show False from h).elim) ?xyVR6 ?xhVR6 ?xrVR6
      case xhVR6 => exact hHeld
      case xyVR6 => exact Or.inl ⟨by rfl, fun W9 hW => by clear hHeld; simp only [List.getElem_toArray, List.getElem_cons_succ, List.getElem_cons_zero]; go_simp⟩
      simp only [Act.put, List.getElem_toArray, List.getElem_cons_succ, List.getElem_cons_zero, List.setIfInBounds_toArray, List.set_cons_succ, List.set_cons_zero]
      refine wpAnyH_take (i := 6) (v := (.pointer (some ⟨gb, m * 3, none⟩))) rfl (by kernel_rfl) (by kernel_rfl) (by kernel_rfl) (fun _ _ _ h => (show False from h).elim) ?xyVR7 ?xhVR7 ?xrVR7
      case xhVR7 => exact hHeld
      case xyVR7 => exact Or.inl ⟨by rfl, fun W9 hW => by clear hHeld; simp only [List.getElem_toArray, List.getElem_cons_succ, List.getElem_cons_zero]; go_simp⟩
      simp only [Act.put, List.getElem_toArray, List.getElem_cons_succ, List.getElem_cons_zero, List.setIfInBounds_toArray, List.set_cons_succ, List.set_cons_zero]
      refine wpAnyH_take (i := 7) (v := (.pointer (some ⟨gb, m * 3 + 2, none⟩))) rfl (by kernel_rfl) (by kernel_rfl) (by kernel_rfl) (fun _ _ _ h => (show False from h).elim) ?xyVR8 ?xhVR8 ?xrVR8
      case xhVR8 => exact hHeld
      case xyVR8 => exact Or.inl ⟨by rfl, fun W9 hW => by clear hHeld; simp only [List.getElem_toArray, List.getElem_cons_succ, List.getElem_cons_zero]; go_simp⟩
      simp only [Act.put, List.getElem_toArray, List.getElem_cons_succ, List.getElem_cons_zero, List.setIfInBounds_toArray, List.set_cons_succ, List.set_cons_zero]
      refine wpAnyH_ready (rs := [8]) (by kernel_rfl) (by simp) ?_
      refine AllReadyH.cons rfl (fun K hK => ?_) AllReadyH.nil
      go_simp
      refine hK.out _ _ (HS.out _ HDW.out) (fun hHeld => ?_)
      clear hK K c12d
      refine wpAnyH_ready (rs := [9]) (by kernel_rfl) (by simp) ?_
      refine AllReadyH.cons rfl (fun K hK => ?_) AllReadyH.nil
      go_simp
      go_wp2_with (first | (go_at_call 61; refine CBd.out.mono ?_; rintro en wT ⟨vT, rfl, hoT, hbT⟩; have HNT0 := hid hoT; obtain ⟨ta, tc, rfl, hrT⟩ := gives_rd hoT; have HRT := hid hrT; have HTO : Hid (∀ a, ta = some a → Wd.heap.size ≤ a.block) := hid (fun a ha => by subst ha; exact (HNT0.out.lt a.block rfl).1); have HBT := hid (HWd.out.trans (hbT.mono HWd.out.size)); clear hbT hrT hoT HNT0))
      refine hK.out _ _ (HS.out _ (HBT.out.block _ (lt_of_block HY.out))) (fun hHeld => ?_)
      clear hK K
      refine wpAnyH_take (i := 10) (v := (.pointer (some ⟨gb, m * 3, none⟩))) rfl (by kernel_rfl) (by kernel_rfl) (by kernel_rfl) (fun _ _ _ h => (show False from h).elim) ?xyVR9 ?xhVR9 ?xrVR9
      case xhVR9 => exact hHeld
      case xyVR9 => exact Or.inl ⟨by rfl, fun W9 hW => by clear hHeld; simp only [List.getElem_toArray, List.getElem_cons_succ, List.getElem_cons_zero]; go_simp⟩
      simp only [Act.put, List.getElem_toArray, List.getElem_cons_succ, List.getElem_cons_zero, List.setIfInBounds_toArray, List.set_cons_succ, List.set_cons_zero]
      refine wpAnyH_take (i := 11) (v := (.pointer (some ⟨gb, m * 3 + 2, none⟩))) rfl (by kernel_rfl) (by kernel_rfl) (by kernel_rfl) (fun _ _ _ h => (show False from h).elim) ?xyVR10 ?xhVR10 ?xrVR10
      case xhVR10 => exact hHeld
      case xyVR10 => exact Or.inl ⟨by rfl, fun W9 hW => by clear hHeld; simp only [List.getElem_toArray, List.getElem_cons_succ, List.getElem_cons_zero]; go_simp⟩
      simp only [Act.put, List.getElem_toArray, List.getElem_cons_succ, List.getElem_cons_zero, List.setIfInBounds_toArray, List.set_cons_succ, List.set_cons_zero]
      have hg9 := (HBT.out.block _ HGB.out.2).trans HG3.out
      have c9 : ∃ u, wT.cell? ⟨gb, m * 3 + 2, none⟩ = some u := ⟨_, (World.cell?_of_block (w := wr) (a := ⟨gb, m * 3 + 2, none⟩) (HBT.out.block _ HGB.out.2)).trans HC12.out⟩
      obtain ⟨u9, c9⟩ := c9
      have f9 : wT.frozen? ⟨gb, m * 3 + 2, none⟩ = false := by simp [World.frozen?, hg9]
      clear hg9
      refine wpAnyH_ready (rs := [12]) (by kernel_rfl) (by simp) ?_
      refine AllReadyH.cons rfl (fun K hK => ?_) AllReadyH.nil
      go_simp
      have HKS := hid (Keep.set (X := fun j => j = gb) wT ⟨gb, m * 3 + 2, none⟩ (.slice ta e.r.b.length tc) rfl)
      have HWS : Hid (w.heap.size + 1 < wB.heap.size) := hid (by have := HS1.out; have := HSZ.out; omega)
      refine hK.out _ _ (HS.out _ ((HKS.out.block _ (by have := lt_of_block HY.out; have := HBT.out.size; omega) (by have := HGB.out; have := HWS.out; omega)).trans (HBT.out.block _ (lt_of_block HY.out)))) (fun hHeld => ?_)
      clear hK K c9 f9
      refine wpAnyH_done (by kernel_rfl) ?_ _
      refine NoPanic.normal ?_
      go_wp2_with fail
      have hgb := HGB.out
      have hws := HWS.out
      have hbs := HBT.out.size
      have hwd := HWd.out.size
      have hbr := HBr.out
      have hb9 := hbr.1.trans (HBT.out.mono hbr.1.size)
      have hnx := (HCL.out.old HBT.out).next e HG.out ⟨ta, tc, e.r.b⟩ HRT.out rfl (fun _ a ha => by have := HTO.out a ha; omega)
      refine ⟨⟨m + 1, _, by omega, by simp, ⟨hb9.trans (HKS.out.below hb9.size (fun j e => by rw [e]; omega)), by simp; omega⟩, (HKS.out.block _ (by omega) (by omega)).trans ((HBT.out.block _ (lt_of_block HY.out)).trans HY.out), (HKS.out.block _ (by omega) (by omega)).trans ((HBT.out.block _ (lt_of_block HZ.out)).trans HZ.out), (HRd.out.old HBT.out).keep HKS.out (fun hne j hj e9 => ?_), hnx⟩, by simp only [intOf]; omega⟩
      obtain ⟨a9, ha9, hak⟩ := blk_of hj
      have := HSA2.out a9 hne ha9
      omega
    · obtain rfl : m = n := by omega
      have hki : ¬ (m : Int) < (m : Int) := by omega
      obtain ⟨r0, r1, r2, r3, r4, r5⟩ := six_cells HZ.out
      have fb : ∀ k, wr.frozen? ⟨w.heap.size + 1, k, none⟩ = false := fun k => by simp [World.frozen?, HZ.out]
      have f0 := fb 0
      have f1 := fb 1
      have f2 := fb 2
      have f3 := fb 3
      have f4 := fb 4
      have f5 := fb 5
      clear fb
      go_wp2_with fail
      have hset := six_set HZ.out (.int .u64 (l.ht : Int)) (.int .i64 l.hv) (.int .u64 (l.si : Int)) (.int .u64 (l.st : Int)) (.slice sa l.sd.b.length sc) (.slice yo m yc)
      have HKS := hid (keep_six wr (w.heap.size + 1) (.int .u64 (l.ht : Int)) (.int .i64 l.hv) (.int .u64 (l.si : Int)) (.int .u64 (l.st : Int)) (.slice sa l.sd.b.length sc) (.slice yo m yc))
      have hws : w.heap.size + 2 ≤ wB.heap.size ∧ w1.heap.size ≤ wB.heap.size := by have := HS1.out; have := HSZ.out; omega
      have hs1 := HS1.out
      have hbr := HBr.out
      have p2 : LoAt wr ⟨l.ht, l.hv, l.si, l.st, ⟨sa, sc, l.sd.b⟩, yo, yc, F⟩ := ⟨HRd.out, ents_own (B := wB.heap.size) HCL.out.own HCL.out.each, HL0.out.ht, HL0.out.si, HL0.out.st, HL0.out.hv, HL0.out.sl, by show F.length ≤ _; omega⟩
      have p3 : ∀ X : Nat → Prop, (∀ k, X k → k < w1.heap.size) → LoOff ⟨l.ht, l.hv, l.si, l.st, ⟨sa, sc, l.sd.b⟩, yo, yc, F⟩ X := fun X hX => ⟨fun hne a ha e => by have := HSA.out a ha; have := hX _ e; omega, fun e he hne a ha e9 => by obtain ⟨j, hj⟩ := List.mem_iff_getElem?.1 he; have hjl : j < F.length := (List.getElem?_eq_some_iff.1 hj).1; have := HCL.out.new j e hj (by rw [← hFl]; exact hjl) hne a ha; have := hX _ e9; omega, fun hne a ha e9 => by simp only at ha; subst ha; have := (HCL.out.own.lt a.block rfl).1; have := hX _ e9; omega⟩
      refine bodyPost_ret (results_cell_row rfl _ _ (w.heap.size + 1) 30 _ (0, 0) _ rfl hset Tryz.underlying30 rfl (by kernel_rfl)) rfl ?_
      refine ⟨_, ?_, ?_, p2.kept HKS.out (p3 _ (fun k e => by omega)), ?_, fun X hX => p3 X (fun k hk => by have := hX k hk; omega)⟩
      · simp only [Lo.v]
        rw [hFl]
      · unfold Lo.pl
        simp only [HCL.out.pe]
      · exact hbr.1.trans (HKS.out.below hbr.1.size (fun j e => by rw [e]; omega))
end Go.Proofs.YtddnleofflobhaaGreatDoor

set_option linter.unusedVariables false
set_option linter.unusedSimpArgs false
set_option maxRecDepth 100000
namespace Go.Proofs.YtddnleofflobhaaGreatDoor
open Go.RowKit Go.Deep

section
variable {base : Nat} {w w' : World} {vb lb db sb n t q T m third used : Nat} {vw rv : Value} {R : List Rc} {l : Lo}
set_option maxHeartbeats 8000000 in
theorem vlog_any (h : Vt base w vb lb db sb n vw rv R t q T m third used l) (hmax : l.es.length ≤ 1000000000000) : Calls Tryz.prog 19 #[.pointer (some ⟨vb, 0, none⟩)] w (CpA l w) := by
  have hb : Below w.heap.size w (w.alloc (.cells #[.int .u64 0, .int .i64 0, .int .u64 0, .int .u64 0, .slice none 0 0, .slice none 0 0] 30)) := (Below.refl _ _).alloc (Nat.le_refl _) _
  have h0 := heap_alloc_new w (.cells #[.int .u64 0, .int .i64 0, .int .u64 0, .int .u64 0, .slice none 0 0, .slice none 0 0] 30)
  have hs1 : (w.alloc (.cells #[.int .u64 0, .int .i64 0, .int .u64 0, .int .u64 0, .slice none 0 0, .slice none 0 0] 30)).heap.size = w.heap.size + 1 := by simp
  have HV := hid h
  clear h
  go_enter Tryz.func19, Tryz.ntmps19
  go_upto_region 1 with fail
  generalize w.alloc (.cells #[.int .u64 0, .int .i64 0, .int .u64 0, .int .u64 0, .slice none 0 0, .slice none 0 0] 30) = w1 at *
  have HB := hid hb
  have H0 := hid h0
  have HS1 := hid hs1
  have hv := HV.out.old hb
  have CC0 := vclone_any l w1 hv.lo hmax
  simp only [Lo.v] at CC0
  have CC := hid CC0
  have hcc : w1.cell? ⟨vb, 2, none⟩ = some (.int .u64 (l.ht : Int)) ∧ w1.cell? ⟨vb, 3, none⟩ = some (.int .i64 l.hv) ∧ w1.cell? ⟨vb, 4, none⟩ = some (.int .u64 (l.si : Int)) ∧ w1.cell? ⟨vb, 5, none⟩ = some (.int .u64 (l.st : Int)) ∧ w1.cell? ⟨vb, 6, none⟩ = some (.slice l.sd.a l.sd.b.length l.sd.c) ∧ w1.cell? ⟨vb, 7, none⟩ = some (.slice l.eo l.es.length l.ec) := by
    have h9 := hv.v
    simp [World.cell?, h9]
  obtain ⟨c2, c3, c4, c5, c6, c7⟩ := hcc
  clear hb h0 hs1 CC0 hv
  go_wp2_with (first
    | (go_at_call 40; refine CC.out.mono ?_; rintro en wC ⟨is, rfl, hpl, hlo, hbC, hoC⟩; have HPL := hid hpl; have HLO := hid hlo; have HOC := hid hoC; have HBC := hid hbC; have hT := (hbC.block _ (lt_of_block H0.out)).trans H0.out; have HT := hid hT; obtain ⟨r0, r1, r2, r3, r4, r5⟩ := six_cells hT; have f0 : wC.frozen? ⟨w.heap.size, 0, none⟩ = false := (by simp [World.frozen?, hT]); have f1 : wC.frozen? ⟨w.heap.size, 1, none⟩ = false := (by simp [World.frozen?, hT]); have f2 : wC.frozen? ⟨w.heap.size, 2, none⟩ = false := (by simp [World.frozen?, hT]); have f3 : wC.frozen? ⟨w.heap.size, 3, none⟩ = false := (by simp [World.frozen?, hT]); have f4 : wC.frozen? ⟨w.heap.size, 4, none⟩ = false := (by simp [World.frozen?, hT]); have f5 : wC.frozen? ⟨w.heap.size, 5, none⟩ = false := (by simp [World.frozen?, hT]); clear hT hpl hlo hbC hoC; simp only [Lo.v]))
  have hset := six_set HT.out (.int .u64 (is.ht : Int)) (.int .i64 is.hv) (.int .u64 (is.si : Int)) (.int .u64 (is.st : Int)) (.slice is.sd.a is.sd.b.length is.sd.c) (.slice is.eo is.es.length is.ec)
  have hks := keep_six wC w.heap.size (.int .u64 (is.ht : Int)) (.int .i64 is.hv) (.int .u64 (is.si : Int)) (.int .u64 (is.st : Int)) (.slice is.sd.a is.sd.b.length is.sd.c) (.slice is.eo is.es.length is.ec)
  have hs1 := HS1.out
  have hbb := HB.out
  have hb9 := hbb.trans (HBC.out.mono hbb.size)
  refine bodyPost_ret (results_cell_row rfl _ _ w.heap.size 30 _ (0, 0) _ rfl hset Tryz.underlying30 rfl (by kernel_rfl)) rfl ?_
  exact ⟨is, rfl, HPL.out, HLO.out.kept hks (HOC.out _ (fun k e => by omega)), hb9.trans (hks.below hb9.size (fun j e => by omega)), fun X hX => HOC.out X (fun k hk => by have := hX k hk; omega)⟩
end

theorem vpieces_any (n : Nat) (hn : n ≤ 140737488355328) (w : World) : Calls Tryz.prog 102 #[.int .i64 (n : Int)] w (fun e w' => e = .returned (.int .i64 (((n + 32751) / 32752 : Nat) : Int)) ∧ w' = w) := by
  have h1 : IntKind.i64.wrap ((n : Int) + 32752) = ((n + 32752 : Nat) : Int) := by rw [IntKind.wrap_i64]; omega
  have h2 : IntKind.i64.wrap ((n : Int) + 32752 - 1) = ((n + 32751 : Nat) : Int) := by rw [IntKind.wrap_i64]; omega
  have h3 : ((n + 32751 : Nat) : Int).tdiv 32752 = (((n + 32751) / 32752 : Nat) : Int) := rfl
  have h4 : IntKind.i64.wrap (((n + 32751) / 32752 : Nat) : Int) = (((n + 32751) / 32752 : Nat) : Int) := by rw [IntKind.wrap_i64]; omega
  go_enter Tryz.func102, Tryz.ntmps102
  go_wp2_with fail
  go_ret
  refine ⟨congrArg (fun z => Ending.returned (Value.int .i64 z)) ?_, rfl⟩
  omega
end Go.Proofs.YtddnleofflobhaaGreatDoor

set_option linter.unusedVariables false
set_option linter.unusedSimpArgs false
set_option maxRecDepth 100000
namespace Go.Proofs.YtddnleofflobhaaGreatDoor
open Go.RowKit Go.Deep

section
variable {base : Nat} {w w' : World} {vb lb db sb n t q T m third used : Nat} {vw rv vw' rv' : Value} {R : List Rc} {l : Lo}
theorem Vt.store (h : Vt base w vb lb db sb n vw rv R t q T m third used l) (o : Nat) (x : Value) (u : Nat) (hv : (w.setCell ⟨vb, o, none⟩ x).heap[vb]? = some (.cells #[.pointer (some ⟨lb, 0, none⟩), .int .i64 (third : Int), .int .u64 (l.ht : Int), .int .i64 l.hv, .int .u64 (l.si : Int), .int .u64 (l.st : Int), .slice l.sd.a l.sd.b.length l.sd.c, .slice l.eo l.es.length l.ec, .int .u64 0, .int .i64 (u : Int), .slice none 0 0, .bool false] 81 (0, 0))) :
    Vt base (w.setCell ⟨vb, o, none⟩ x) vb lb db sb n vw rv R t q T m third u l := by
  have hk := Keep.set (X := fun j => j = vb) w ⟨vb, o, none⟩ x rfl
  exact ⟨h.log.kept hk (fun k hk9 e => h.nv (by rw [← e]; exact hk9)) (fun r hr hne a ha e => h.rb r hr hne a ha e), hv, h.lo.kept hk h.ov, h.nv, h.off, h.ov, h.rb⟩
theorem Vt.app (h : Vt base w vb lb db sb n vw rv R t q T m third used l) {x : List UInt8} (ha : AppC base lb db sb n vw rv R t 0 q T m x w w') :
    ∃ vw' rv' r, r.b = x ∧ Vt base w' vb lb db sb n vw' rv' (R ++ [r]) (t + 1) (q + secs x.length) (T + secs x.length) m third used l ∧ Gfr db sb lb vw vw' rv rv' w w' := by
  obtain ⟨vw', rv', r, h1, h2, h3, hg⟩ := ha
  have hlt := lt_of_block h.v
  refine ⟨vw', rv', r, h1, ⟨h3, (hg.keep.block _ hlt h.nv).trans h.v, h.lo.kept hg.keep h.off, fun e => (hg.new _ e).elim h.nv (fun e => by omega), h.off.or h.lo.low (fun j e => hg.new j e), h.ov, fun y hy hne a ha e => ?_⟩, hg⟩
  rcases List.mem_append.1 hy with hy | hy
  · exact h.rb y hy hne a ha e
  · obtain rfl := List.mem_singleton.1 hy
    have := h2 a ha
    omega
end

theorem veqf0 (a b : Option Addr) (c d : Nat) (f : Value) (w : World) : Calls Tryz.prog 99 #[.slice a 0 c, .slice b 0 d, f] w (fun e w' => e = .returned (.bool true) ∧ w' = w) := by
  have hl := fun W a n c => run_len_slice (P := Tryz.prog) W 60 3 a n c Tryz.underlying60
  go_enter Tryz.func99, Tryz.ntmps99
  go_wp2_with fail
  go_loopw [17] (fun i wr => i = .int .i64 0 ∧ wr = w) (fun _ _ => 0)
  case atStart => exact ⟨rfl, rfl⟩
  case round =>
    obtain ⟨rfl, rfl⟩ := hrel
    go_wp2_with fail
    go_ret
    exact ⟨rfl, rfl⟩

section
variable {base : Nat} {w w' : World} {vb lb db sb n t q T m third used : Nat} {vw rv vw' rv' : Value} {R : List Rc} {l : Lo}
/-- What one more record comes to. -/
def VApp (base vb lb db sb n : Nat) (vw rv : Value) (R : List Rc) (t q T m third used : Nat) (l : Lo) (x : List UInt8) (w w' : World) : Prop :=
  ∃ vw' rv' r, r.b = x ∧ Vt base w' vb lb db sb n vw' rv' (R ++ [r]) (t + 1) (q + secs x.length) (T + secs x.length) m third (used + cntN x.length) l ∧ Keep (fun k => GL db sb vw lb rv k ∨ k = vb) w w' ∧ (∀ k, GL db sb vw' lb rv' k → GL db sb vw lb rv k ∨ w.heap.size ≤ k)
set_option maxHeartbeats 8000000 in
theorem vlay1_any (h : Vt base w vb lb db sb n vw rv R t q T m third used l) (lo : Option Addr) (lc : Nat) (r0 : Rc) (hq : Bss w (.slice lo 1 lc) [r0]) (hl : r0.b.length ≤ 32768) (hn : 3 ≤ n) (ht : t < 1000000000) (hq9 : q ≤ 90000) (hT : T + secs r0.b.length < n - 2) (hR : R.length + 1 ≤ 1000000) (hu : used ≤ 1000000) (hro : r0.b ≠ [] → ∀ a, r0.a = some a → ¬ GL db sb vw lb rv a.block ∧ a.block ≠ vb) (hlo : ∀ k, blk (.slice lo 1 lc) = some k → k ≠ vb) :
    Calls Tryz.prog 69 #[.pointer (some ⟨vb, 0, none⟩), .slice lo 1 lc] w (fun e w' => e = .returned .nilIface ∧ VApp base vb lb db sb n vw rv R t q T m third used l r0.b w w') := by
  have HV := hid h
  have HQ := hid hq
  have hlr := fun W a n c => run_len_slice (P := Tryz.prog) W 60 3 a n c Tryz.underlying60
  have hlb := fun W a n c => run_len_slice (P := Tryz.prog) W 25 3 a n c Tryz.underlying25
  have hcl : 1 ≤ lc := by
    obtain ⟨_, _, e, h1, -⟩ := hq.form
    simp only [Value.slice.injEq, List.length_cons, List.length_nil] at e h1
    omega
  have hcc : w.cell? ⟨vb, 10, none⟩ = some (.slice none 0 0) := by have h9 := h.v; simp [World.cell?, h9]
  have f10 : w.frozen? ⟨vb, 10, none⟩ = false := by have h9 := h.v; simp [World.frozen?, h9]
  obtain ⟨so, sc, hs0, -, -⟩ := hq.1.head (P := Tryz.prog) 60 25 Tryz.underlying60 (by kernel_rfl) 0 (Nat.zero_le _)
  have hs1 : ∀ W, (Instr.slice 60 (.slice lo 1 lc) none (some (.int .i64 0)) none).run Tryz.prog W = .ok (.slice so 0 sc) W := fun W => hs0 .i64 W
  obtain ⟨zo, zc, hz0, hz1, hzb⟩ := hq.1.cut (P := Tryz.prog) (by decide) 60 25 Tryz.underlying60 (by kernel_rfl) 0 (Nat.zero_le _)
  have hs2 : ∀ W, (Instr.slice 60 (.slice lo 1 lc) (some (.int .i64 0)) none none).run Tryz.prog W = .ok (.slice zo 1 zc) W := fun W => hz0 W
  have HZB := hid hzb
  have HLO := hid hlo
  have HRO := hid hro
  have HZ1 : Hid (Rws 1 w (.slice zo 1 zc) [[rcv r0]]) := hid hz1
  clear h hq hs0 hz0 hz1 hzb hlo hro
  go_enter Tryz.func69, Tryz.ntmps69
  go_upto_region 2 with fail
  have C : ∀ a, Calls Tryz.prog 99 #[.slice none 0 0, .slice so 0 sc, .func (.func 100) #[] #[]] (w.drewN a) (fun e w'' => e = .returned (.bool true) ∧ ∃ m, w'' = w.drewN m) := fun a => (veqf0 _ _ _ _ _ _).mono fun e w' h => ⟨h.1, a, h.2⟩
  go_quiet ((go_at_call 99; exact C _))
  have hb2 : Below w.heap.size w (w.drewN nq) := ⟨rfl, rfl, rfl, Nat.le_refl _, fun _ _ => rfl⟩
  generalize w.drewN nq = w2 at *
  have HB2 := hid hb2
  have HV2 := hid (HV.out.old hb2)
  have c10 : w2.cell? ⟨vb, 10, none⟩ = some (.slice none 0 0) := by have h9 := HV2.out.v; simp [World.cell?, h9]
  have g10 : w2.frozen? ⟨vb, 10, none⟩ = false := by have h9 := HV2.out.v; simp [World.frozen?, h9]
  have hv3 := HV2.out.store 10 (.slice none 0 0) used (set_at (k := 10) (.slice none 0 0) HV2.out.v)
  have hk3 := Keep.set (X := fun j => j = vb) w2 ⟨vb, 10, none⟩ (.slice none 0 0) rfl
  clear hcc f10 C hb2
  go_upto_region 5 with fail
  generalize w2.setCell ⟨vb, 10, none⟩ (.slice none 0 0) = w3 at *
  have HV3 := hid hv3
  have HK3 := hid hk3
  clear hv3 hk3 c10 g10
  go_wp2_with fail
  go_loopw [36] (fun i wr => ∃ k : Nat, k ≤ 1 ∧ i = .int .i64 (k : Int) ∧ Hid ((k = 0 ∧ wr = w3) ∨ (k = 1 ∧ VApp base vb lb db sb n vw rv R t q T m third used l r0.b w wr))) (fun i _ => 1 - (intOf i).toNat)
  case atStart => exact ⟨0, by omega, rfl, .inl ⟨rfl, rfl⟩⟩
  case round =>
    obtain ⟨k, hk, rfl, HOr⟩ := hrel
    by_cases h0 : k < 1
    · obtain rfl : k = 0 := by omega
      have hwr : wr = w3 := HOr.out.elim (fun h => h.2) (fun h => by omega)
      subst hwr
      clear HOr
      have hrow := (HZ1.out.old HB2.out).keep HK3.out (fun _ k hk e => HLO.out k (HZB.out k hk) e)
      obtain ⟨b1, o1, ea, hc⟩ := hrow.get (by decide) (k := 0) (r := [rcv r0]) rfl
      have c20 := hc 0 (rcv r0) rfl
      simp only [Nat.zero_mul, Nat.add_zero, rcv] at c20
      have hrd : Rd wr (.slice r0.a r0.b.length r0.c) r0.b := ((HQ.out.2 r0 (by simp)).old HB2.out).keep HK3.out (fun hne k hk e => by
        obtain ⟨a9, ha9, hak⟩ := blk_of hk
        exact (HRO.out hne a9 ha9).2 (by rw [hak]; exact e))
      have CA := hid (append_C HV3.out.log hrd hl hn ht hq9 hT hR (fun hne k hk e => by
        obtain ⟨a9, ha9, hak⟩ := blk_of hk
        exact (HRO.out hne a9 ha9).1 (by rw [hak]; exact e)))
      have c0 : wr.cell? ⟨vb, 0, none⟩ = some (.pointer (some ⟨lb, 0, none⟩)) := by have h9 := HV3.out.v; simp [World.cell?, h9]
      have HEA := hid ea
      subst ea
      clear hrow hc hrd
      obtain ⟨cn, hcn⟩ : ∃ cn, cn = cntN r0.b.length := ⟨_, rfl⟩
      have HCN := hid hcn
      have hcb : cn ≤ 822 := by rw [hcn]; unfold cntN; omega
      have CC : Hid (∀ W, Calls Tryz.prog 53 #[.int .i64 (r0.b.length : Int)] W (fun e w' => e = .returned (.int .i64 (cn : Int)) ∧ w' = W)) := hid fun W => by rw [hcn]; exact count_any r0.b.length (by omega) W
      have hw9 : IntKind.i64.wrap ((used : Int) + (cn : Int)) = ((used + cn : Nat) : Int) := by rw [IntKind.wrap_i64]; omega
      have hw8 : IntKind.i64.wrap ((used : Int) + (cn : Int)) = (used : Int) + (cn : Int) := by rw [IntKind.wrap_i64]; omega
      clear hcn
      go_upto_region 11 with (first | (go_at_call 101; refine CA.out.mono ?_; rintro en w4 ⟨rfl, hA⟩; have HA4 := hid (HV3.out.app hA); clear hA))
      obtain ⟨vw4, rv4, r4, e4, hV4, hG4⟩ := HA4.out
      have HV4 := hid hV4
      have HG4 := hid hG4
      have HE4 := hid e4
      have c9 : w4.cell? ⟨vb, 9, none⟩ = some (.int .i64 (used : Int)) := by have h9 := hV4.v; simp [World.cell?, h9]
      have f9 : w4.frozen? ⟨vb, 9, none⟩ = false := by have h9 := hV4.v; simp [World.frozen?, h9]
      have hs9 := HV4.out.store 9 (.int .i64 ((used : Int) + (cn : Int))) (used + cn) (set_at (k := 9) (.int .i64 ((used : Int) + (cn : Int))) HV4.out.v)
      have hks : Keep (fun j => j = vb) w4 (w4.setCell ⟨vb, 9, none⟩ (.int .i64 ((used : Int) + (cn : Int)))) := Keep.set (X := fun j => j = vb) w4 ⟨vb, 9, none⟩ _ rfl
      have hkd : Keep (fun k => GL db sb vw lb rv k ∨ k = vb) (w4.setCell ⟨vb, 9, none⟩ (.int .i64 ((used : Int) + (cn : Int)))) (w4.setCell ⟨vb, 9, none⟩ (.int .i64 ((used : Int) + (cn : Int)))).drew := ⟨rfl, rfl, rfl, Nat.le_refl _, fun _ _ _ => rfl⟩
      have HFIN : Hid (VApp base vb lb db sb n vw rv R t q T m third used l r0.b w (w4.setCell ⟨vb, 9, none⟩ (.int .i64 ((used : Int) + (cn : Int)))).drew) := hid ⟨vw4, rv4, r4, HE4.out, by rw [← HCN.out]; exact hs9.old ⟨rfl, rfl, rfl, Nat.le_refl _, fun _ _ => rfl⟩, ((((Keep.of_below HB2.out).trans (HK3.out.mono (fun k _ e => .inr e))).trans (HG4.out.keep.mono (fun k _ e => .inl e))).trans (hks.mono (fun k _ e => .inr e))).trans hkd, fun k hk => (HG4.out.new k hk).imp id (fun e => by have := HB2.out.size; have := HK3.out.size; omega)⟩
      clear hV4 hG4 e4 c20 c0 hs9 hks hkd
      go_region_with (first | (go_at_call 53; refine (CC.out _).mono ?_; rintro en w9 ⟨rfl, hw9'⟩; subst hw9'))
      all_goals go_wp2_with fail
      all_goals exact ⟨⟨1, by omega, rfl, .inr ⟨rfl, HFIN.out⟩⟩, by simp [intOf]⟩
    · obtain rfl : k = 1 := by omega
      have HA : Hid (VApp base vb lb db sb n vw rv R t q T m third used l r0.b w wr) := hid (HOr.out.elim (fun h => by omega) (fun h => h.2))
      clear HOr
      go_wp2_with fail
      go_ret
      exact ⟨rfl, HA.out⟩
end
end Go.Proofs.YtddnleofflobhaaGreatDoor

