import Derived.Deep.CutRange
import Derived.Lib.SlBytesConst
import Derived.WalkKit
import Derived.OpenShut
import Derived.Test.YtddnleofflobhaaGreatDoorRows
import Derived.WalkSpells
import Derived.WalkLawsBesides
import Derived.Laws.AppendOwnNone
import Derived.BigQuiet
import Derived.Deep.QuietTactic
import Derived.Deep.MidRow
import Derived.Laws.MakeOwn
import Derived.Deep.CutBlock
import Derived.Sort.CutIn
import Derived.RangeFuncNested
import Derived.RangeFuncBound
import Derived.RangeFuncCalls
import Derived.RangeFuncLeaves
import Derived.RangeFuncBox
import Derived.Shelf.Abstract
import Derived.Shelf.RegionOpen
import Derived.OwnWalkIn
import Derived.TacticsInMore
import Derived.LoopNIn
import Derived.LoopIn
import Derived.OrdersIn
import Derived.LaidEql
import Derived.Stop.Asserts
import Derived.RowKitTokens
import Derived.Lib.Bytes
import Derived.Deep.RegionHeld3
import Derived.Deep.WholeRow
import Derived.BigRegion
import Derived.Great.BuildSlice
import Derived.Deep.AppendLies
import Derived.StillTailTactics
import Derived.Deep.RegionLaw
import Derived.Great.FillDense
import Derived.Laws.Tables
import Derived.LoopN
import Derived.Deep.OwnRows
import Derived.OwnWalk
import Derived.Deep.Slices
import Derived.Lib.AppendZeros
import Derived.Deep.LoopGhost
import Derived.Deep.RegionWith
import Derived.ArgAppend
import Derived.Lib.SliceRun
import Derived.Deep.RegionHeldLaw
import Derived.ProofKit
import Derived.Deep.Matrix
import Derived.Deep.Grids
import Derived.Test.YtddnleofflobhaaGreatDoorVG1
import Derived.Test.YtddnleofflobhaaGreatDoorVG2
import Derived.Test.YtddnleofflobhaaGreatDoorVG3
import Derived.Test.YtddnleofflobhaaGreatDoorVG4
import Derived.Test.YtddnleofflobhaaGreatDoorVG5
import Derived.Test.YtddnleofflobhaaGreatDoorVG6
import Derived.Test.YtddnleofflobhaaGreatDoorVG7
import Derived.Test.YtddnleofflobhaaGreatDoorVG8
import Derived.Test.YtddnleofflobhaaGreatDoorVG9
import Derived.Test.YtddnleofflobhaaGreatDoorVG10
import Derived.Test.YtddnleofflobhaaGreatDoorVG11
import Derived.Test.YtddnleofflobhaaGreatDoorVG12
import Derived.Test.YtddnleofflobhaaGreatDoorVG13
import Derived.Test.YtddnleofflobhaaGreatDoorVG14
import Derived.Test.YtddnleofflobhaaGreatDoorVG15
import Derived.Test.YtddnleofflobhaaGreatDoorVG16
import Derived.Test.YtddnleofflobhaaGreatDoorVG17
import Derived.Test.YtddnleofflobhaaGreatDoorVG18
import Derived.Test.YtddnleofflobhaaGreatDoorVG19
import Derived.Test.YtddnleofflobhaaGreatDoorVG20
import Derived.Test.YtddnleofflobhaaGreatDoorVG21
import Derived.Test.YtddnleofflobhaaGreatDoorVG22
set_option linter.unusedVariables false
set_option linter.unusedSimpArgs false
set_option linter.unusedVariables false
set_option linter.unusedSimpArgs false
set_option maxRecDepth 100000
namespace Go.Proofs.YtddnleofflobhaaGreatDoor
open Go.RowKit Go.Deep

/-- The log that awake puts. -/
def loA (xb eb : Nat) : Lo := ⟨2, 1, 0, 0, ⟨none, 0, []⟩, some ⟨eb, 0, none⟩, 1, [⟨1, 1, ⟨some ⟨xb, 0, none⟩, 1, [120]⟩⟩]⟩
def plA : PL := ⟨2, 1, 0, 0, [], [⟨1, 1, [120]⟩]⟩
theorem loA_pl (xb eb : Nat) : (loA xb eb).pl = plA := rfl
theorem plA_right : rightP plA = true := by decide
theorem plA_ne : lo0.pl ≠ plA := by decide
theorem loA_at {V : World} {xb eb : Nat} (hx : V.heap[xb]? = some (.cells #[.int .u8 120] 5 (1, 2))) (he : V.heap[eb]? = some (.cells #[.int .u64 1, .int .u64 1, .slice (some ⟨xb, 0, none⟩) 1 1] 63 (0, 0))) : LoAt V (loA xb eb) := by
  have hr : Rd V (.slice (some ⟨xb, 0, none⟩) 1 1) [120] := ⟨some ⟨xb, 0, none⟩, 1, rfl, by decide, by decide, (fun h => by cases h), fun a ha j u hu => by
    cases ha
    match j, hu with
    | 0, hu =>
      simp only [List.map_cons, List.map_nil, List.getElem?_cons_zero, Option.some.injEq] at hu
      subst hu
      simp [World.cell?, hx, Addr.add, bv]
    | j + 1, hu => simp at hu⟩
  have hes : Rws 3 V (.slice (some ⟨eb, 0, none⟩) 1 1) [rowE ⟨1, 1, ⟨some ⟨xb, 0, none⟩, 1, [120]⟩⟩] := ⟨some ⟨eb, 0, none⟩, 1, rfl, Nat.le_refl _, by decide, (fun h => by cases h), (fun r hr => by
    obtain rfl := List.mem_singleton.1 hr
    exact ⟨rfl, fun u hu => by simp only [rowE, rcv, List.mem_cons, List.not_mem_nil, or_false] at hu; rcases hu with rfl | rfl | rfl <;> rfl⟩), fun a ha j u hu => by
    cases ha
    match j, hu with
    | 0, hu => simp [rowE, rcv] at hu; subst hu; simp [World.cell?, he, Addr.add]
    | 1, hu => simp [rowE, rcv] at hu; subst hu; simp [World.cell?, he, Addr.add]
    | 2, hu => simp [rowE, rcv] at hu; subst hu; simp [World.cell?, he, Addr.add]
    | j + 3, hu => simp [rowE, rcv] at hu⟩
  exact ⟨Rd.nil V, ⟨hes, fun e h => by
    obtain rfl := List.mem_singleton.1 h
    exact ⟨hr, by simp, by simp, by simp⟩⟩, by simp [loA], by simp [loA], by simp [loA], by simp [loA], by simp [loA], by simp [loA]⟩

theorem diffA_pos : 1 ≤ (diffB lo0.pl plA).length := by
  have := numL_pos plA.ht
  unfold diffB
  rw [List.length_append]
  omega
theorem recA_len : (recV 1 (diffB lo0.pl plA)).length ≤ 100 := by
  have hdl := diff_len lo0.pl plA plA_right (by decide) (by decide)
  rw [show longP plA = 54 from by decide] at hdl
  have h0 := numL_len 0 0 (by omega)
  have h1 := numL_len 0 1 (by omega)
  have h5 := numL_len 0 5 (by omega)
  have hd := numL_len 0 (diffB lo0.pl plA).length (by omega)
  unfold recV textL
  simp only [List.length_append, List.length_cons, List.length_nil]
  simp only [Nat.zero_add, Nat.reduceAdd] at *
  omega
theorem cntsA {n : Nat} (h : n ≤ 54) : cntsN n ≤ 10 := by
  unfold cntsN cntN
  omega

set_option maxHeartbeats 8000000 in
theorem vawake_any (hrec : RecsOk) (w : World) : Calls Tryz.prog 9 #[] w (fun e w' => e = .returned (.bool true) ∧ Below w.heap.size w w') := by
  have HREC := hid hrec
  have CN := hid (new_any 2000 (by omega) (by omega) w)
  clear hrec
  go_enter Tryz.func9, Tryz.ntmps9
  go_upto_region 5 with (first
    | (go_at_call 14; refine CN.out.mono ?_; rintro en w2 ⟨db, sb, rfl, hD, hb2⟩; have HD := hid hD; have HB2 := hid hb2; have CO := hid (vopen0_any hD (by decide)); clear hD hb2)
    | (go_at_call 15; refine CO.out.mono ?_; rintro en w3 ⟨vb, lb, rfl, hV, hvb, hb3⟩; have HV := hid hV; have HVB := hid hvb; have HB3 := hid hb3; clear hV hvb hb3))
  have cv := Lib.run_convert_bytes_const (P := Tryz.prog) w3 25 5 #[.int .u8 120] 1 1 Tryz.underlying25 Tryz.underlying5
  simp only [List.size_toArray, List.length_cons, List.length_nil, Nat.reduceAdd] at cv
  go_upto_region 6 with fail
  have hs4 : (((w3.alloc (.cells #[.int .u8 120] 5 (1, 2))).alloc (.cells #[.int .u64 1, .int .u64 1, .slice (some ⟨w3.heap.size, 0, none⟩) 1 1] 63)).alloc (.cells #[.int .u64 2, .int .i64 1, .int .u64 0, .int .u64 0, .slice none 0 0, .slice (some ⟨w3.heap.size + 1, 0, none⟩) 1 1] 30)).heap.size = w3.heap.size + 3 := by simp
  have hb4 : Below w3.heap.size w3 (((w3.alloc (.cells #[.int .u8 120] 5 (1, 2))).alloc (.cells #[.int .u64 1, .int .u64 1, .slice (some ⟨w3.heap.size, 0, none⟩) 1 1] 63)).alloc (.cells #[.int .u64 2, .int .i64 1, .int .u64 0, .int .u64 0, .slice none 0 0, .slice (some ⟨w3.heap.size + 1, 0, none⟩) 1 1] 30)) := (((Below.refl _ _).alloc (Nat.le_refl _) _).alloc (by simp) _).alloc (by simp; omega) _
  have hx4 : (((w3.alloc (.cells #[.int .u8 120] 5 (1, 2))).alloc (.cells #[.int .u64 1, .int .u64 1, .slice (some ⟨w3.heap.size, 0, none⟩) 1 1] 63)).alloc (.cells #[.int .u64 2, .int .i64 1, .int .u64 0, .int .u64 0, .slice none 0 0, .slice (some ⟨w3.heap.size + 1, 0, none⟩) 1 1] 30)).heap[w3.heap.size]? = some (.cells #[.int .u8 120] 5 (1, 2)) := (Below.heap_alloc _ _ _ (by simp; omega)).trans ((Below.heap_alloc _ _ _ (by simp)).trans (heap_alloc_new _ _))
  have he4 : (((w3.alloc (.cells #[.int .u8 120] 5 (1, 2))).alloc (.cells #[.int .u64 1, .int .u64 1, .slice (some ⟨w3.heap.size, 0, none⟩) 1 1] 63)).alloc (.cells #[.int .u64 2, .int .i64 1, .int .u64 0, .int .u64 0, .slice none 0 0, .slice (some ⟨w3.heap.size + 1, 0, none⟩) 1 1] 30)).heap[w3.heap.size + 1]? = some (.cells #[.int .u64 1, .int .u64 1, .slice (some ⟨w3.heap.size, 0, none⟩) 1 1] 63 (0, 0)) := (Below.heap_alloc _ _ _ (by simp)).trans (heap_alloc2_new w3 _ _)
  have hl4 : (((w3.alloc (.cells #[.int .u8 120] 5 (1, 2))).alloc (.cells #[.int .u64 1, .int .u64 1, .slice (some ⟨w3.heap.size, 0, none⟩) 1 1] 63)).alloc (.cells #[.int .u64 2, .int .i64 1, .int .u64 0, .int .u64 0, .slice none 0 0, .slice (some ⟨w3.heap.size + 1, 0, none⟩) 1 1] 30)).heap[w3.heap.size + 2]? = some (.cells #[.int .u64 2, .int .i64 1, .int .u64 0, .int .u64 0, .slice none 0 0, .slice (some ⟨w3.heap.size + 1, 0, none⟩) 1 1] 30 (0, 0)) := by
    have h9 := heap_alloc2_new (w3.alloc (.cells #[.int .u8 120] 5 (1, 2))) (.cells #[.int .u64 1, .int .u64 1, .slice (some ⟨w3.heap.size, 0, none⟩) 1 1] 63) (.cells #[.int .u64 2, .int .i64 1, .int .u64 0, .int .u64 0, .slice none 0 0, .slice (some ⟨w3.heap.size + 1, 0, none⟩) 1 1] 30)
    rw [show (w3.alloc (.cells #[.int .u8 120] 5 (1, 2))).heap.size = w3.heap.size + 1 from by simp] at h9
    exact h9
  generalize ((w3.alloc (.cells #[.int .u8 120] 5 (1, 2))).alloc (.cells #[.int .u64 1, .int .u64 1, .slice (some ⟨w3.heap.size, 0, none⟩) 1 1] 63)).alloc (.cells #[.int .u64 2, .int .i64 1, .int .u64 0, .int .u64 0, .slice none 0 0, .slice (some ⟨w3.heap.size + 1, 0, none⟩) 1 1] 30) = w4 at *
  have HL4 := hid (loA_at hx4 he4)
  have HB4 := hid hb4
  have HC4 := hid hl4
  have HS4 := hid hs4
  have HG3 : Hid (∀ k, GL db sb (.slice none 0 0) lb (.slice none 0 0) k → k < w3.heap.size) := hid fun k hk => by
    obtain ⟨S, Q, L, m', h9, -⟩ := HV.out.log
    exact (h9.g.lt k hk).2
  have HV3 := hid (lt_of_block HV.out.v)
  have hoff : ∀ X : Nat → Prop, (∀ k, X k → k < w3.heap.size) → LoOff (loA w3.heap.size (w3.heap.size + 1)) X := fun X hX => ⟨fun h => absurd rfl h, fun e he hne a ha e9 => by
    obtain rfl := List.mem_singleton.1 he
    cases ha
    exact absurd (hX _ e9) (Nat.lt_irrefl _), fun hne a ha e9 => by
    have ha' : some (Addr.mk (w3.heap.size + 1) 0 none) = some a := ha
    cases ha'
    have := hX _ e9
    simp only at this
    omega⟩
  have HOFF := hid hoff
  clear cv hs4 hb4 hx4 he4 hl4 hoff
  have HWd : Hid (Below w4.heap.size w4 w4.drew) := hid ⟨rfl, rfl, rfl, Nat.le_refl _, fun _ _ => rfl⟩
  obtain ⟨S9, hS9⟩ : ∃ S9 : World → Prop, S9 = fun V => V.heap[w3.heap.size + 2]? = some (.cells #[.int .u64 2, .int .i64 1, .int .u64 0, .int .u64 0, .slice none 0 0, .slice (some ⟨w3.heap.size + 1, 0, none⟩) 1 1] 30 (0, 0)) := ⟨_, rfl⟩
  have HZ : Hid (∀ V, S9 V → (V.cell? ⟨w3.heap.size + 2, 0, none⟩ = some (.int .u64 2) ∧ V.cell? ⟨w3.heap.size + 2, 1, none⟩ = some (.int .i64 1) ∧ V.cell? ⟨w3.heap.size + 2, 2, none⟩ = some (.int .u64 0) ∧ V.cell? ⟨w3.heap.size + 2, 3, none⟩ = some (.int .u64 0) ∧ V.cell? ⟨w3.heap.size + 2, 4, none⟩ = some (.slice none 0 0) ∧ V.cell? ⟨w3.heap.size + 2, 5, none⟩ = some (.slice (some ⟨w3.heap.size + 1, 0, none⟩) 1 1))) := hid fun V h => by rw [hS9] at h; exact six_cells h
  have HS : Hid (∀ V, V.heap[w3.heap.size + 2]? = some (.cells #[.int .u64 2, .int .i64 1, .int .u64 0, .int .u64 0, .slice none 0 0, .slice (some ⟨w3.heap.size + 1, 0, none⟩) 1 1] 30 (0, 0)) → S9 V) := hid fun V h => by rw [hS9]; exact h
  have HCd : Hid (w4.drew.heap[w3.heap.size + 2]? = some (.cells #[.int .u64 2, .int .i64 1, .int .u64 0, .int .u64 0, .slice none 0 0, .slice (some ⟨w3.heap.size + 1, 0, none⟩) 1 1] 30 (0, 0))) := hid HC4.out
  have HBd : Hid (Below w3.heap.size w3 w4.drew) := hid (HB4.out.trans (HWd.out.mono HB4.out.size))
  have hdl := diff_len lo0.pl plA plA_right (by decide) (by decide)
  have hd0 : 1 ≤ (diffB lo0.pl plA).length := diffA_pos
  have hrv := recA_len
  have hlp : longP plA = 54 := by decide
  rw [hlp] at hdl
  have CPd0 := vPut1_any HREC.out (HV.out.old HBd.out) (HL4.out.old HWd.out) (HOFF.out _ HG3.out) (HOFF.out _ (fun k e => by rw [e]; exact HV3.out)) plA_ne plA_right (by rw [loA_pl, hlp]; decide) (by rw [loA_pl, hlp]; decide) ⟨by rw [loA_pl]; exact hd0, by rw [loA_pl]; omega⟩ (by rw [loA_pl]; have := cntsA hdl; omega) (by decide) (by decide) (by rw [loA_pl]; unfold secs; omega) (by rw [loA_pl]; omega) (by decide) (by decide) (by decide)
  simp only [Lo.v, loA] at CPd0
  have CPd := hid CPd0
  clear hS9 CPd0 hdl hd0 hrv hlp
  refine wp_region_noPanic ?_
  refine wp_region_held_drew (S := S9) (by kernel_rfl) (HS.out _ HCd.out) (fun hHeld => ?_)
  generalize w4.drew = Wd at *
  refine wpAnyH_take (i := 0) (v := (.pointer (some ⟨vb, 0, none⟩))) rfl (by kernel_rfl) (by kernel_rfl) (by kernel_rfl) (fun _ _ _ h => (show False from h).elim) ?xyVW1 ?xhVW1 ?xrVW1
  case xhVW1 => exact hHeld
  case xyVW1 => exact Or.inl ⟨by rfl, fun W9 hW => by clear hHeld; simp only [List.getElem_toArray, List.getElem_cons_succ, List.getElem_cons_zero]; go_simp⟩
  simp only [Act.put, List.getElem_toArray, List.getElem_cons_succ, List.getElem_cons_zero, List.setIfInBounds_toArray, List.set_cons_succ, List.set_cons_zero]
  refine wpAnyH_take (i := 1) (v := (.agg #[.int .u64 2, .int .i64 1, .int .u64 0, .int .u64 0, .slice none 0 0, .slice (some ⟨w3.heap.size + 1, 0, none⟩) 1 1])) rfl (by kernel_rfl) (by kernel_rfl) (by kernel_rfl) (fun _ _ _ h => (show False from h).elim) ?xyVW2 ?xhVW2 ?xrVW2
  case xhVW2 => exact hHeld
  case xyVW2 => exact Or.inl ⟨by rfl, fun W9 hW => by obtain ⟨y0, y1, y2, y3, y4, y5⟩ := HZ.out _ hW; clear hHeld; simp only [List.getElem_toArray, List.getElem_cons_succ, List.getElem_cons_zero]; go_simp⟩
  simp only [Act.put, List.getElem_toArray, List.getElem_cons_succ, List.getElem_cons_zero, List.setIfInBounds_toArray, List.set_cons_succ, List.set_cons_zero]
  have HDd : Hid (w3.heap.size ≤ Wd.heap.size) := hid (by have := HBd.out.size; omega)
  refine wpAnyH_ready (rs := [2]) (by kernel_rfl) (by simp) ?_
  refine AllReadyH.cons rfl (fun K hK => ?_) AllReadyH.nil
  go_simp
  go_wp2_with (first | (go_at_call 23; refine CPd.out.mono ?_; rintro en wP ⟨rfl, hP⟩; have HP := hid hP; have hCP : wP.heap[w3.heap.size + 2]? = Wd.heap[w3.heap.size + 2]? := (by obtain ⟨_, _, _, _, -, -, -, hk, -⟩ := hP; exact hk.block _ (lt_of_block HCd.out) (fun e => e.elim (fun e => by have := HG3.out _ e; omega) (fun e => by have := HV3.out; omega))); have HCP := hid (hCP.trans HCd.out); clear hP hCP))
  refine hK.out _ _ (HS.out _ HCP.out) (fun hHeld => ?_)
  clear hK K
  obtain ⟨vwP, rvP, rP, lP, -, hpP, hVP, hKP, -⟩ := HP.out
  have HVP := hid hVP
  have HLP : Hid (LoAt wP (loA w3.heap.size (w3.heap.size + 1))) := hid ((HL4.out.old HWd.out).kept hKP ((HOFF.out _ HG3.out).or (HOFF.out (fun k => k = vb) (fun k e => by rw [e]; exact HV3.out)) (fun j e => e)))
  have HKP := hid hKP
  have HPP := hid hpP
  have hleP : lP.es.length = 1 := by
    have := congrArg (fun q => q.es.length) hpP
    simpa [Lo.pl, loA] using this
  have CLP := hid (vlog_any hVP (by omega))
  clear hpP hVP hKP hleP
  refine wpAnyH_take (i := 3) (v := (.bool true)) rfl (by kernel_rfl) (by kernel_rfl) (by kernel_rfl) (fun _ _ _ h => (show False from h).elim) ?xyVW3 ?xhVW3 ?xrVW3
  case xhVW3 => exact hHeld
  case xyVW3 => exact Or.inl ⟨by rfl, fun W9 hW => by clear hHeld; simp only [List.getElem_toArray, List.getElem_cons_succ, List.getElem_cons_zero]; go_simp⟩
  simp only [Act.put, List.getElem_toArray, List.getElem_cons_succ, List.getElem_cons_zero, List.setIfInBounds_toArray, List.set_cons_succ, List.set_cons_zero]
  refine wpAnyH_take (i := 4) (v := (.bool true)) rfl (by kernel_rfl) (by kernel_rfl) (by kernel_rfl) (fun _ _ _ h => (show False from h).elim) ?xyVW4 ?xhVW4 ?xrVW4
  case xhVW4 => exact hHeld
  case xyVW4 => exact Or.inl ⟨by rfl, fun W9 hW => by clear hHeld; simp only [List.getElem_toArray, List.getElem_cons_succ, List.getElem_cons_zero]; go_simp⟩
  simp only [Act.put, List.getElem_toArray, List.getElem_cons_succ, List.getElem_cons_zero, List.setIfInBounds_toArray, List.set_cons_succ, List.set_cons_zero]
  refine wpAnyH_take (i := 5) (v := (.pointer (some ⟨vb, 0, none⟩))) rfl (by kernel_rfl) (by kernel_rfl) (by kernel_rfl) (fun _ _ _ h => (show False from h).elim) ?xyVW5 ?xhVW5 ?xrVW5
  case xhVW5 => exact hHeld
  case xyVW5 => exact Or.inl ⟨by rfl, fun W9 hW => by clear hHeld; simp only [List.getElem_toArray, List.getElem_cons_succ, List.getElem_cons_zero]; go_simp⟩
  simp only [Act.put, List.getElem_toArray, List.getElem_cons_succ, List.getElem_cons_zero, List.setIfInBounds_toArray, List.set_cons_succ, List.set_cons_zero]
  refine wpAnyH_take (i := 7) (v := (.agg #[.int .u64 2, .int .i64 1, .int .u64 0, .int .u64 0, .slice none 0 0, .slice (some ⟨w3.heap.size + 1, 0, none⟩) 1 1])) rfl (by kernel_rfl) (by kernel_rfl) (by kernel_rfl) (fun _ _ _ h => (show False from h).elim) ?xyVW6 ?xhVW6 ?xrVW6
  case xhVW6 => exact hHeld
  case xyVW6 => exact Or.inl ⟨by rfl, fun W9 hW => by obtain ⟨y0, y1, y2, y3, y4, y5⟩ := HZ.out _ hW; clear hHeld; simp only [List.getElem_toArray, List.getElem_cons_succ, List.getElem_cons_zero]; go_simp⟩
  simp only [Act.put, List.getElem_toArray, List.getElem_cons_succ, List.getElem_cons_zero, List.setIfInBounds_toArray, List.set_cons_succ, List.set_cons_zero]
  refine wpAnyH_ready (rs := [6]) (by kernel_rfl) (by simp) ?_
  refine AllReadyH.cons rfl (fun K hK => ?_) AllReadyH.nil
  go_simp
  go_wp2_with (first | (go_at_call 19; refine CLP.out.mono ?_; rintro en wL ⟨i2, rfl, hp2, hlo2, hbL, -⟩; have HBL := hid hbL; have hH := hlog_any i2 (loA w3.heap.size (w3.heap.size + 1)) wL hlo2 (HLP.out.old hbL); rw [show decide (i2.pl = (loA w3.heap.size (w3.heap.size + 1)).pl) = true from decide_eq_true (hp2.trans HPP.out)] at hH; simp only [Lo.v, loA] at hH; have CH := hid hH; clear hp2 hlo2 hbL hH; simp only [Lo.v]))
  refine hK.out _ _ (HS.out _ ((HBL.out.block _ (lt_of_block HCP.out)).trans HCP.out)) (fun hHeld => ?_)
  clear hK K
  refine wpAnyH_ready (rs := [8]) (by kernel_rfl) (by simp) ?_
  refine AllReadyH.cons rfl (fun K hK => ?_) AllReadyH.nil
  go_simp
  go_wp2_with (first | (go_at_call 13; refine CH.out.mono ?_; rintro en wH ⟨rfl, hbH⟩; have HBH := hid (HBL.out.trans (hbH.mono HBL.out.size)); have hR := right_any (loA w3.heap.size (w3.heap.size + 1)) wH (HLP.out.old HBH.out); rw [loA_pl, plA_right] at hR; simp only [Lo.v, loA] at hR; have CR := hid hR; clear hbH hR))
  refine hK.out _ _ (HS.out _ ((HBH.out.block _ (lt_of_block HCP.out)).trans HCP.out)) (fun hHeld => ?_)
  clear hK K
  refine wpAnyH_take (i := 9) (v := (.bool true)) rfl (by kernel_rfl) (by kernel_rfl) (by kernel_rfl) (fun _ _ _ h => (show False from h).elim) ?xyVW7 ?xhVW7 ?xrVW7
  case xhVW7 => exact hHeld
  case xyVW7 => exact Or.inl ⟨by rfl, fun W9 hW => by clear hHeld; simp only [List.getElem_toArray, List.getElem_cons_succ, List.getElem_cons_zero]; go_simp⟩
  simp only [Act.put, List.getElem_toArray, List.getElem_cons_succ, List.getElem_cons_zero, List.setIfInBounds_toArray, List.set_cons_succ, List.set_cons_zero]
  refine wpAnyH_take (i := 10) (v := (.bool true)) rfl (by kernel_rfl) (by kernel_rfl) (by kernel_rfl) (fun _ _ _ h => (show False from h).elim) ?xyVW8 ?xhVW8 ?xrVW8
  case xhVW8 => exact hHeld
  case xyVW8 => exact Or.inl ⟨by rfl, fun W9 hW => by clear hHeld; simp only [List.getElem_toArray, List.getElem_cons_succ, List.getElem_cons_zero]; go_simp⟩
  simp only [Act.put, List.getElem_toArray, List.getElem_cons_succ, List.getElem_cons_zero, List.setIfInBounds_toArray, List.set_cons_succ, List.set_cons_zero]
  refine wpAnyH_take (i := 11) (v := (.agg #[.int .u64 2, .int .i64 1, .int .u64 0, .int .u64 0, .slice none 0 0, .slice (some ⟨w3.heap.size + 1, 0, none⟩) 1 1])) rfl (by kernel_rfl) (by kernel_rfl) (by kernel_rfl) (fun _ _ _ h => (show False from h).elim) ?xyVW9 ?xhVW9 ?xrVW9
  case xhVW9 => exact hHeld
  case xyVW9 => exact Or.inl ⟨by rfl, fun W9 hW => by obtain ⟨y0, y1, y2, y3, y4, y5⟩ := HZ.out _ hW; clear hHeld; simp only [List.getElem_toArray, List.getElem_cons_succ, List.getElem_cons_zero]; go_simp⟩
  simp only [Act.put, List.getElem_toArray, List.getElem_cons_succ, List.getElem_cons_zero, List.setIfInBounds_toArray, List.set_cons_succ, List.set_cons_zero]
  refine wpAnyH_ready (rs := [12]) (by kernel_rfl) (by simp) ?_
  refine AllReadyH.cons rfl (fun K hK => ?_) AllReadyH.nil
  go_simp
  go_wp2_with (first | (go_at_call 11; refine CR.out.mono ?_; rintro en wR ⟨rfl, hbR⟩; have HBR := hid (HBH.out.trans (hbR.mono HBH.out.size)); clear hbR))
  refine hK.out _ _ (HS.out _ ((HBR.out.block _ (lt_of_block HCP.out)).trans HCP.out)) (fun hHeld => ?_)
  clear hK K
  refine wpAnyH_take (i := 13) (v := (.bool true)) rfl (by kernel_rfl) (by kernel_rfl) (by kernel_rfl) (fun _ _ _ h => (show False from h).elim) ?xyVW10 ?xhVW10 ?xrVW10
  case xhVW10 => exact hHeld
  case xyVW10 => exact Or.inl ⟨by rfl, fun W9 hW => by clear hHeld; simp only [List.getElem_toArray, List.getElem_cons_succ, List.getElem_cons_zero]; go_simp⟩
  simp only [Act.put, List.getElem_toArray, List.getElem_cons_succ, List.getElem_cons_zero, List.setIfInBounds_toArray, List.set_cons_succ, List.set_cons_zero]
  refine wpAnyH_take (i := 14) (v := (.bool true)) rfl (by kernel_rfl) (by kernel_rfl) (by kernel_rfl) (fun _ _ _ h => (show False from h).elim) ?xyVW11 ?xhVW11 ?xrVW11
  case xhVW11 => exact hHeld
  case xyVW11 => exact Or.inl ⟨by rfl, fun W9 hW => by clear hHeld; simp only [List.getElem_toArray, List.getElem_cons_succ, List.getElem_cons_zero]; go_simp⟩
  simp only [Act.put, List.getElem_toArray, List.getElem_cons_succ, List.getElem_cons_zero, List.setIfInBounds_toArray, List.set_cons_succ, List.set_cons_zero]
  refine wpAnyH_done (by kernel_rfl) ?_ _
  refine NoPanic.normal ?_
  go_wp2_with fail
  go_ret
  have hb3 := HB2.out.trans (HB3.out.mono HB2.out.size)
  have hbd := hb3.trans (HBd.out.mono hb3.size)
  have hbp := hbd.trans (HKP.out.below hbd.size (fun k e => e.elim (fun e => ?_) (fun e => by have := HVB.out; have := HB2.out.size; omega)))
  · exact ⟨rfl, hbp.trans (HBR.out.mono hbp.size)⟩
  · obtain ⟨S, Q, L, m', h9, -⟩ := HV.out.log
    exact (h9.g.lt k e).1
end Go.Proofs.YtddnleofflobhaaGreatDoor

set_option linter.unusedVariables false
set_option linter.unusedSimpArgs false
set_option maxRecDepth 100000
namespace Go.Proofs.YtddnleofflobhaaGreatDoor
open Go.RowKit Go.Deep

namespace vaultRight
set_option maxHeartbeats 8000000 in
theorem walk0 (hrec : RecsOk) (l : Lo) (w : World) (hl : LoAt w l) : Calls Tryz.prog 3 #[l.v] w (fun e w' => e = .returned (.bool true) ∧ Below w.heap.size w w') := by
  have hb : Below w.heap.size w (w.alloc (.cells #[.int .u64 (l.ht : Int), .int .i64 l.hv, .int .u64 (l.si : Int), .int .u64 (l.st : Int), .slice l.sd.a l.sd.b.length l.sd.c, .slice l.eo l.es.length l.ec] 30)) := (Below.refl _ _).alloc (Nat.le_refl _) _
  have h0 := heap_alloc_new w (.cells #[.int .u64 (l.ht : Int), .int .i64 l.hv, .int .u64 (l.si : Int), .int .u64 (l.st : Int), .slice l.sd.a l.sd.b.length l.sd.c, .slice l.eo l.es.length l.ec] 30)
  have HREC := hid hrec
  have HL := hid hl
  obtain ⟨sm, hsm⟩ : ∃ sm, sm = smallL l := ⟨_, rfl⟩
  have HSM := hid hsm
  have CS : Hid (∀ W, Below w.heap.size w W → Calls Tryz.prog 8 #[.agg #[.int .u64 (l.ht : Int), .int .i64 l.hv, .int .u64 (l.si : Int), .int .u64 (l.st : Int), .slice l.sd.a l.sd.b.length l.sd.c, .slice l.eo l.es.length l.ec]] W (fun en w' => en = .returned (.bool sm) ∧ Below W.heap.size W w')) := hid fun W hW => by rw [hsm]; exact small_any l W (hl.old hW)
  simp only [Lo.v]
  clear hrec hl hsm
  go_enter Tryz.func3, Tryz.ntmps3
  go_upto_region 1 with fail
  generalize w.alloc (.cells #[.int .u64 (l.ht : Int), .int .i64 l.hv, .int .u64 (l.si : Int), .int .u64 (l.st : Int), .slice l.sd.a l.sd.b.length l.sd.c, .slice l.eo l.es.length l.ec] 30) = w1 at *
  have HB := hid hb
  have H0 := hid h0
  obtain ⟨z0, z1, z2, z3, z4, z5⟩ := six_cells h0
  have CS1 := hid (CS.out _ hb)
  clear hb h0
  cases sm with
  | false =>
    go_wp2_with (first
      | (go_at_call 8; refine CS1.out.mono ?_; rintro en w2 ⟨rfl, hb2⟩; have HB2 := hid (HB.out.trans (hb2.mono HB.out.size)); clear hb2)
      | (go_at_call 9; refine (vawake_any HREC.out _).mono ?_; rintro en w3 ⟨rfl, hb3⟩; have HB3 := hid (HB2.out.trans (hb3.mono HB2.out.size)); clear hb3))
    go_ret
    exact ⟨rfl, HB3.out⟩
  | true =>
    have hmax : l.es.length ≤ 1000000000000 := by
      have := HSM.out
      unfold smallL at this
      simp at this
      omega
    have HMX := hid hmax
    clear hmax
    go_upto_region 3 with (first
      | (go_at_call 8; refine CS1.out.mono ?_; rintro en w2 ⟨rfl, hb2⟩; have HB2 := hid (HB.out.trans (hb2.mono HB.out.size)); have H02 := hid ((hb2.block _ (lt_of_block H0.out)).trans H0.out); have CC0 := copyLog_any l w2 (HL.out.old HB2.out) HMX.out; simp only [Lo.v] at CC0; have CC := hid CC0; obtain ⟨y0, y1, y2, y3, y4, y5⟩ := six_cells H02.out; clear hb2 CC0))
    go_upto_region 4 with (first
      | (go_at_call 10; refine CC.out.mono ?_; rintro en wC ⟨is, rfl, hpl, hlo, hbC, hoC⟩; have HPL := hid hpl; have HLO := hid hlo; have HBC := hid (HB2.out.trans (hbC.mono HB2.out.size)); have H0C := hid ((hbC.block _ (lt_of_block H02.out)).trans H02.out); clear hpl hlo hbC hoC; simp only [Lo.v]))
    have hb4 : Below wC.heap.size wC (wC.alloc (.cells #[.int .u64 (is.ht : Int), .int .i64 is.hv, .int .u64 (is.si : Int), .int .u64 (is.st : Int), .slice is.sd.a is.sd.b.length is.sd.c, .slice is.eo is.es.length is.ec] 30)) := (Below.refl _ _).alloc (Nat.le_refl _) _
    have h4 := heap_alloc_new wC (.cells #[.int .u64 (is.ht : Int), .int .i64 is.hv, .int .u64 (is.si : Int), .int .u64 (is.st : Int), .slice is.sd.a is.sd.b.length is.sd.c, .slice is.eo is.es.length is.ec] 30)
    generalize wC.alloc (.cells #[.int .u64 (is.ht : Int), .int .i64 is.hv, .int .u64 (is.si : Int), .int .u64 (is.st : Int), .slice is.sd.a is.sd.b.length is.sd.c, .slice is.eo is.es.length is.ec] 30) = w4 at *
    have HB4 := hid (HBC.out.trans (hb4.mono HBC.out.size))
    have H44 := hid h4
    have H04 := hid ((hb4.block _ (lt_of_block H0C.out)).trans H0C.out)
    have HIS := hid (HLO.out.old hb4)
    clear hb4 h4 y0 y1 y2 y3 y4 y5 z0 z1 z2 z3 z4 z5
    obtain ⟨RR, hRR⟩ : ∃ RR, RR = rightP l.pl := ⟨_, rfl⟩
    have HLV : Hid (∀ V, Below w4.heap.size w4 V → LoAt V l) := hid fun V hV => HL.out.old (HB4.out.trans (hV.mono HB4.out.size))
    have CR1 : Hid (∀ V, Below w4.heap.size w4 V → Calls Tryz.prog 11 #[.agg #[.int .u64 (is.ht : Int), .int .i64 is.hv, .int .u64 (is.si : Int), .int .u64 (is.st : Int), .slice is.sd.a is.sd.b.length is.sd.c, .slice is.eo is.es.length is.ec]] V (fun en w' => en = .returned (.bool RR) ∧ Below V.heap.size V w')) := hid fun V hV => by
      have := right_any is V (HIS.out.old hV)
      rw [HPL.out, ← hRR] at this
      exact this
    have CR2 : Hid (∀ V, Below w4.heap.size w4 V → Calls Tryz.prog 12 #[.agg #[.int .u64 (l.ht : Int), .int .i64 l.hv, .int .u64 (l.si : Int), .int .u64 (l.st : Int), .slice l.sd.a l.sd.b.length l.sd.c, .slice l.eo l.es.length l.ec]] V (fun en w' => en = .returned (.bool RR) ∧ Below V.heap.size V w')) := hid fun V hV => by
      have := refRight_any l V (HLV.out V hV)
      rw [← hRR] at this
      exact this
    have CH : Hid (∀ V, Below w4.heap.size w4 V → Calls Tryz.prog 13 #[.agg #[.int .u64 (is.ht : Int), .int .i64 is.hv, .int .u64 (is.si : Int), .int .u64 (is.st : Int), .slice is.sd.a is.sd.b.length is.sd.c, .slice is.eo is.es.length is.ec], .agg #[.int .u64 (l.ht : Int), .int .i64 l.hv, .int .u64 (l.si : Int), .int .u64 (l.st : Int), .slice l.sd.a l.sd.b.length l.sd.c, .slice l.eo l.es.length l.ec]] V (fun en w' => en = .returned (.bool true) ∧ Below V.heap.size V w')) := hid fun V hV => by
      have := hlog_any is l V (HIS.out.old hV) (HLV.out V hV)
      rw [show decide (is.pl = l.pl) = true from by rw [HPL.out]; simp] at this
      exact this
    obtain ⟨S9, hS9⟩ : ∃ S9 : World → Prop, S9 = fun V => Below w4.heap.size w4 V := ⟨_, rfl⟩
    have HS : Hid (∀ V, Below w4.heap.size w4 V → S9 V) := hid fun V h => by rw [hS9]; exact h
    have HZ : Hid (∀ V, S9 V → V.heap[w.heap.size]? = some (.cells #[.int .u64 (l.ht : Int), .int .i64 l.hv, .int .u64 (l.si : Int), .int .u64 (l.st : Int), .slice l.sd.a l.sd.b.length l.sd.c, .slice l.eo l.es.length l.ec] 30 (0, 0)) ∧ V.heap[wC.heap.size]? = some (.cells #[.int .u64 (is.ht : Int), .int .i64 is.hv, .int .u64 (is.si : Int), .int .u64 (is.st : Int), .slice is.sd.a is.sd.b.length is.sd.c, .slice is.eo is.es.length is.ec] 30 (0, 0))) := hid fun V h => by
      rw [hS9] at h
      exact ⟨(h.block _ (lt_of_block H04.out)).trans H04.out, (h.block _ (lt_of_block H44.out)).trans H44.out⟩
    have HWd : Hid (Below w4.heap.size w4 w4.drew) := hid ⟨rfl, rfl, rfl, Nat.le_refl _, fun _ _ => rfl⟩
    clear hS9 hRR
    refine wp_region_noPanic ?_
    refine wp_region_held_drew (S := S9) (by kernel_rfl) (HS.out _ HWd.out) (fun hHeld => ?_)
    generalize w4.drew = Wd at *
    refine wpAnyH_ready (rs := [0]) (by kernel_rfl) (by simp) ?_
    refine AllReadyH.cons rfl (fun K hK => ?_) AllReadyH.nil
    go_simp
    go_wp2_with (first | (go_at_call 9; refine (vawake_any HREC.out _).mono ?_; rintro en wA ⟨rfl, hbA⟩; have HBA := hid (HWd.out.trans (hbA.mono HWd.out.size)); have CRa := hid (CR1.out _ HBA.out); clear hbA))
    refine hK.out _ _ (HS.out _ HBA.out) (fun hHeld => ?_)
    clear hK K
    refine wpAnyH_take (i := 1) (v := (.bool true)) rfl (by kernel_rfl) (by kernel_rfl) (by kernel_rfl) (fun _ _ _ h => (show False from h).elim) ?xyVR91 ?xhVR91 ?xrVR91
    case xhVR91 => exact hHeld
    case xyVR91 => exact Or.inl ⟨by rfl, fun W9 hW => by clear hHeld; simp only [List.getElem_toArray, List.getElem_cons_succ, List.getElem_cons_zero]; go_simp⟩
    simp only [Act.put, List.getElem_toArray, List.getElem_cons_succ, List.getElem_cons_zero, List.setIfInBounds_toArray, List.set_cons_succ, List.set_cons_zero]
    refine wpAnyH_take (i := 2) (v := (.agg #[.int .u64 (is.ht : Int), .int .i64 is.hv, .int .u64 (is.si : Int), .int .u64 (is.st : Int), .slice is.sd.a is.sd.b.length is.sd.c, .slice is.eo is.es.length is.ec])) rfl (by kernel_rfl) (by kernel_rfl) (by kernel_rfl) (fun _ _ _ h => (show False from h).elim) ?xyVR92 ?xhVR92 ?xrVR92
    case xhVR92 => exact hHeld
    case xyVR92 => exact Or.inl ⟨by rfl, fun W9 hW => by obtain ⟨x0, x1, x2, x3, x4, x5⟩ := six_cells (HZ.out _ hW).2; clear hHeld; simp only [List.getElem_toArray, List.getElem_cons_succ, List.getElem_cons_zero]; go_simp⟩
    simp only [Act.put, List.getElem_toArray, List.getElem_cons_succ, List.getElem_cons_zero, List.setIfInBounds_toArray, List.set_cons_succ, List.set_cons_zero]
    refine wpAnyH_take (i := 4) (v := (.agg #[.int .u64 (l.ht : Int), .int .i64 l.hv, .int .u64 (l.si : Int), .int .u64 (l.st : Int), .slice l.sd.a l.sd.b.length l.sd.c, .slice l.eo l.es.length l.ec])) rfl (by kernel_rfl) (by kernel_rfl) (by kernel_rfl) (fun _ _ _ h => (show False from h).elim) ?xyVR93 ?xhVR93 ?xrVR93
    case xhVR93 => exact hHeld
    case xyVR93 => exact Or.inl ⟨by rfl, fun W9 hW => by obtain ⟨y0, y1, y2, y3, y4, y5⟩ := six_cells (HZ.out _ hW).1; clear hHeld; simp only [List.getElem_toArray, List.getElem_cons_succ, List.getElem_cons_zero]; go_simp⟩
    simp only [Act.put, List.getElem_toArray, List.getElem_cons_succ, List.getElem_cons_zero, List.setIfInBounds_toArray, List.set_cons_succ, List.set_cons_zero]
    refine wpAnyH_ready (rs := [3]) (by kernel_rfl) (by simp) ?_
    refine AllReadyH.cons rfl (fun K hK => ?_) AllReadyH.nil
    go_simp
    go_wp2_with (first | (go_at_call 11; refine CRa.out.mono ?_; rintro en wR ⟨rfl, hbR⟩; have HBR := hid (HBA.out.trans (hbR.mono HBA.out.size)); have CRb := hid (CR2.out _ HBR.out); clear hbR))
    refine hK.out _ _ (HS.out _ HBR.out) (fun hHeld => ?_)
    clear hK K
    refine wpAnyH_ready (rs := [5]) (by kernel_rfl) (by simp) ?_
    refine AllReadyH.cons rfl (fun K hK => ?_) AllReadyH.nil
    go_simp
    go_wp2_with (first | (go_at_call 12; refine CRb.out.mono ?_; rintro en wF ⟨rfl, hbF⟩; have HBF := hid (HBR.out.trans (hbF.mono HBR.out.size)); have CHb := hid (CH.out _ HBF.out); clear hbF))
    refine hK.out _ _ (HS.out _ HBF.out) (fun hHeld => ?_)
    clear hK K
    refine wpAnyH_take (i := 6) (v := (.bool true)) rfl (by kernel_rfl) (by kernel_rfl) (by kernel_rfl) (fun _ _ _ h => (show False from h).elim) ?xyVR94 ?xhVR94 ?xrVR94
    case xhVR94 => exact hHeld
    case xyVR94 => exact Or.inl ⟨by rfl, fun W9 hW => by clear hHeld; simp only [List.getElem_toArray, List.getElem_cons_succ, List.getElem_cons_zero]; go_simp⟩
    simp only [Act.put, List.getElem_toArray, List.getElem_cons_succ, List.getElem_cons_zero, List.setIfInBounds_toArray, List.set_cons_succ, List.set_cons_zero]
    refine wpAnyH_take (i := 7) (v := (.bool true)) rfl (by kernel_rfl) (by kernel_rfl) (by kernel_rfl) (fun _ _ _ h => (show False from h).elim) ?xyVR95 ?xhVR95 ?xrVR95
    case xhVR95 => exact hHeld
    case xyVR95 => exact Or.inl ⟨by rfl, fun W9 hW => by clear hHeld; simp only [List.getElem_toArray, List.getElem_cons_succ, List.getElem_cons_zero]; go_simp⟩
    simp only [Act.put, List.getElem_toArray, List.getElem_cons_succ, List.getElem_cons_zero, List.setIfInBounds_toArray, List.set_cons_succ, List.set_cons_zero]
    refine wpAnyH_take (i := 8) (v := (.bool true)) rfl (by kernel_rfl) (by kernel_rfl) (by kernel_rfl) (fun _ _ _ h => (show False from h).elim) ?xyVR96 ?xhVR96 ?xrVR96
    case xhVR96 => exact hHeld
    case xyVR96 => exact Or.inl ⟨by rfl, fun W9 hW => by clear hHeld; simp only [List.getElem_toArray, List.getElem_cons_succ, List.getElem_cons_zero]; go_simp⟩
    simp only [Act.put, List.getElem_toArray, List.getElem_cons_succ, List.getElem_cons_zero, List.setIfInBounds_toArray, List.set_cons_succ, List.set_cons_zero]
    refine wpAnyH_take (i := 9) (v := (.agg #[.int .u64 (is.ht : Int), .int .i64 is.hv, .int .u64 (is.si : Int), .int .u64 (is.st : Int), .slice is.sd.a is.sd.b.length is.sd.c, .slice is.eo is.es.length is.ec])) rfl (by kernel_rfl) (by kernel_rfl) (by kernel_rfl) (fun _ _ _ h => (show False from h).elim) ?xyVR97 ?xhVR97 ?xrVR97
    case xhVR97 => exact hHeld
    case xyVR97 => exact Or.inl ⟨by rfl, fun W9 hW => by obtain ⟨x0, x1, x2, x3, x4, x5⟩ := six_cells (HZ.out _ hW).2; clear hHeld; simp only [List.getElem_toArray, List.getElem_cons_succ, List.getElem_cons_zero]; go_simp⟩
    simp only [Act.put, List.getElem_toArray, List.getElem_cons_succ, List.getElem_cons_zero, List.setIfInBounds_toArray, List.set_cons_succ, List.set_cons_zero]
    refine wpAnyH_take (i := 10) (v := (.agg #[.int .u64 (l.ht : Int), .int .i64 l.hv, .int .u64 (l.si : Int), .int .u64 (l.st : Int), .slice l.sd.a l.sd.b.length l.sd.c, .slice l.eo l.es.length l.ec])) rfl (by kernel_rfl) (by kernel_rfl) (by kernel_rfl) (fun _ _ _ h => (show False from h).elim) ?xyVR98 ?xhVR98 ?xrVR98
    case xhVR98 => exact hHeld
    case xyVR98 => exact Or.inl ⟨by rfl, fun W9 hW => by obtain ⟨y0, y1, y2, y3, y4, y5⟩ := six_cells (HZ.out _ hW).1; clear hHeld; simp only [List.getElem_toArray, List.getElem_cons_succ, List.getElem_cons_zero]; go_simp⟩
    simp only [Act.put, List.getElem_toArray, List.getElem_cons_succ, List.getElem_cons_zero, List.setIfInBounds_toArray, List.set_cons_succ, List.set_cons_zero]
    refine wpAnyH_ready (rs := [11]) (by kernel_rfl) (by simp) ?_
    refine AllReadyH.cons rfl (fun K hK => ?_) AllReadyH.nil
    go_simp
    go_wp2_with (first | (go_at_call 13; refine CHb.out.mono ?_; rintro en wH ⟨rfl, hbH⟩; have HBH := hid (HBF.out.trans (hbH.mono HBF.out.size)); clear hbH))
    refine hK.out _ _ (HS.out _ HBH.out) (fun hHeld => ?_)
    clear hK K
    refine wpAnyH_take (i := 12) (v := (.bool true)) rfl (by kernel_rfl) (by kernel_rfl) (by kernel_rfl) (fun _ _ _ h => (show False from h).elim) ?xyVR99 ?xhVR99 ?xrVR99
    case xhVR99 => exact hHeld
    case xyVR99 => exact Or.inl ⟨by rfl, fun W9 hW => by clear hHeld; simp only [List.getElem_toArray, List.getElem_cons_succ, List.getElem_cons_zero]; go_simp⟩
    simp only [Act.put, List.getElem_toArray, List.getElem_cons_succ, List.getElem_cons_zero, List.setIfInBounds_toArray, List.set_cons_succ, List.set_cons_zero]
    refine wpAnyH_take (i := 13) (v := (.bool true)) rfl (by kernel_rfl) (by kernel_rfl) (by kernel_rfl) (fun _ _ _ h => (show False from h).elim) ?xyVR910 ?xhVR910 ?xrVR910
    case xhVR910 => exact hHeld
    case xyVR910 => exact Or.inl ⟨by rfl, fun W9 hW => by clear hHeld; simp only [List.getElem_toArray, List.getElem_cons_succ, List.getElem_cons_zero]; go_simp⟩
    simp only [Act.put, List.getElem_toArray, List.getElem_cons_succ, List.getElem_cons_zero, List.setIfInBounds_toArray, List.set_cons_succ, List.set_cons_zero]
    refine wpAnyH_done (by kernel_rfl) ?_ _
    refine NoPanic.normal ?_
    go_wp2_with fail
    go_ret
    exact ⟨rfl, HB4.out.trans (HBH.out.mono HB4.out.size)⟩
end vaultRight
end Go.Proofs.YtddnleofflobhaaGreatDoor

set_option linter.unusedVariables false
set_option maxRecDepth 100000
namespace Go.Proofs.YtddnleofflobhaaGreatDoor
open Go.RowKit Go.Shelf
attribute [local go_sem] Oper.semAt_some

/-- The k-th piece. -/
def vpc (B : List UInt8) (k : Nat) : List UInt8 := (B.drop (32752 * k)).take 32752
theorem vpc_len (B : List UInt8) (k : Nat) : (vpc B k).length = min 32752 (B.length - 32752 * k) := by unfold vpc; simp
def vpcv (ao : Option Addr) (B : List UInt8) (k : Nat) : Value := .slice (ao.map (·.add (32752 * k * 1))) (vpc B k).length (vpc B k).length

theorem vcut3 {w : World} {ao : Option Addr} {c : Nat} {B : List UInt8} (h : Rd w (.slice ao B.length c) B) (k : Nat) (hk : 32752 * k < B.length) :
    (∀ W, (Instr.slice 25 (.slice ao B.length c) (some (.int .i64 ((32752 * k : Nat) : Int))) (some (.int .i64 ((32752 * k + (vpc B k).length : Nat) : Int))) (some (.int .i64 ((32752 * k + (vpc B k).length : Nat) : Int)))).run Tryz.prog W = .ok (vpcv ao B k) W) ∧ Rd w (vpcv ao B k) (vpc B k) := by
  have ht' : Tryz.prog.underlying 25 = some (.slice (Tryz.prog.elem 25)) := by simp [Program.elem, Tryz.underlying25]
  have he : Tryz.prog.elem 25 = 5 := by simp [Program.elem, Tryz.underlying25]
  obtain ⟨i0, hi, hz0, hz1, hz2⟩ := info_parts (show (Tryz.prog.info? 5).map (fun i => (i.zero, i.size, i.bytes)) = some (some (.int .u8 0), 1, 1) by kernel_rfl)
  have hs : ∀ W, (sizeOf 5).run Tryz.prog W = .ok 1 W := fun W => by simp [sizeOf, typeInfo, hi, hz1]
  obtain ⟨ao1, c1, hs1, h5, -⟩ := h.cut (P := Tryz.prog) 25 5 Tryz.underlying25 (by kernel_rfl) (32752 * k) (by omega)
  have hpl := vpc_len B k
  obtain ⟨ao', c', e, h1, h2, h3, h4⟩ := id h
  simp only [Value.slice.injEq, true_and] at e
  obtain ⟨rfl, rfl⟩ := e
  have key : (if c = 32752 * k then ao else ao.map (·.add (32752 * k * 1))) = ao1 := by
    have := hs1 w
    rw [run_slice_l w 25 _ _ _ ht' .i64 _ (by omega) (by omega), he, hs] at this
    simp only [Result.andThen, sliced, Int.toNat_natCast, Result.ok.injEq, and_true, Value.slice.injEq] at this
    exact this.1
  rw [if_neg (by omega)] at key
  refine ⟨fun W => ?_, ?_⟩
  · rw [run_slice_lhm W 25 _ _ _ ht' .i64 .i64 .i64 _ _ _ (by omega) (by omega) (by omega) (by omega), he, hs]
    simp only [Result.andThen, sliced, Int.toNat_natCast]
    unfold vpcv
    rw [if_neg (by omega), show 32752 * k + (vpc B k).length - 32752 * k = (vpc B k).length by omega]
  · unfold vpcv
    rw [key]
    have h6 := h5.take 32752
    obtain ⟨ao', c', e, q1, q2, q3, q4⟩ := h5
    simp only [Value.slice.injEq] at e
    obtain ⟨rfl, -, rfl⟩ := e
    refine ⟨ao1, _, rfl, Nat.le_refl _, by omega, fun hn => ?_, fun a ha j u hu => q4 a ha j u ?_⟩
    · rw [hn] at key
      cases ao with
      | none => have := h3 rfl; omega
      | some a => cases key
    · unfold vpc at hu
      rw [List.map_take, List.getElem?_take] at hu
      split at hu
      · exact hu
      · cases hu

/-- What a round of Chunk knows of what comes. -/
def VxC (ao : Option Addr) (B : List UInt8) (pre : List Nat) (x : Nat) (W : World) : Prop := x = pre.length ∧ 32752 * x < B.length ∧ Rd W (vpcv ao B x) (vpc B x)

set_option maxHeartbeats 8000000 in
theorem vchunk_in (n : Nat) (hn : 1 ≤ n) (l Bs Bn : Nat) (ao : Option Addr) (c : Nat) (B : List UInt8) (Kp : World → World → Prop) (J Jx : List Nat → World → Prop) (W0 : World) (hB : B.length ≤ 1000000)
    (hKr : Kp W0 W0) (hKt : ∀ {X Y Z : World}, Kp X Y → Kp Y Z → Kp X Z) (hKb : ∀ X Y, Kp W0 X → Below X.heap.size X Y → Kp X Y) (hKs : ∀ X Y, Kp X Y → X.heap.size ≤ Y.heap.size)
    (hJ : ∀ p X Y, J p X → Below X.heap.size X Y → J p Y)
    (hY : ∀ pre x W1, J pre W1 → VxC ao B pre x W1 → W0.heap.size ≤ W1.heap.size → YieldAt Fence.wide (n - 1) Tryz.prog l #[vpcv ao B x] W1 fun e W' =>
      (e = .returned (.bool true) ∧ J (pre ++ [x]) W' ∧ Kp W1 W' ∧ KeepsFrom W0.heap.size W1 W') ∨ (e = .returned (.bool false) ∧ Jx (pre ++ [x]) W' ∧ KeepsFrom W0.heap.size W1 W'))
    (hP : ∀ W, Kp W0 W → W.cell? ⟨Bs, 0, none⟩ = some (.slice ao B.length c) ∧ W.cell? ⟨Bn, 0, none⟩ = some (.int .i64 32752) ∧ Rd W (.slice ao B.length c) B) (h0 : J [] W0) :
    CallsIn Fence.wide n Tryz.prog 119 #[.func (.yield l) #[] #[], .pointer (some ⟨Bs, 0, none⟩), .pointer (some ⟨Bn, 0, none⟩)] W0 fun e W' => (∃ v, e = .returned v) ∧
      ((∃ xs : List Nat, xs = List.range ((B.length + 32751) / 32752) ∧ J xs W') ∨ (∃ pre : List Nat, Jx pre W')) := by
  refine callsIn_of_wp Tryz.func119 rfl trivial ?_ rfl
  simp only [Tryz.ntmps119, List.size_toArray, List.length_cons, List.length_nil, Nat.reduceAdd, Nat.reduceSub, Array.replicate_succ, Array.replicate_zero, List.push_toArray, List.append_toArray, List.nil_append, List.cons_append]
  have HP := hid hP
  have HY := hid hY
  have HJ0 := hid h0
  have HKb := hid hKb
  have HKs := hid hKs
  have HJJ := hid hJ
  have HKt : Hid (∀ X Y Z : World, Kp X Y → Kp Y Z → Kp X Z) := fun X Y Z h k => hKt h k
  have HKr := hid hKr
  clear hP hY h0 hKr hKt hKb hJ hKs
  gi_wp2
  gi_loopw [4] (fun i wr => ∃ k : Nat, 32752 * k < B.length + 32752 ∧ i = .int .i64 ((32752 * k : Nat) : Int) ∧ Hid (J (List.range k) wr) ∧ Hid (Kp W0 wr)) (fun i _ => B.length + 32752 - (intOf i).toNat)
  case atStart => exact ⟨0, by omega, rfl, HJ0, HKr⟩
  case round =>
    obtain ⟨k, hk, rfl, HJr, HKr9⟩ := hrel
    obtain ⟨c0, c1, hR0⟩ := HP.out _ HKr9.out
    have hlen := fun W => run_len_slice (P := Tryz.prog) W 25 3 ao B.length c Tryz.underlying25
    by_cases hlt : 32752 * k < B.length
    · have hki : ((32752 * k : Nat) : Int) < (B.length : Int) := by omega
      obtain ⟨hs3, hr3⟩ := vcut3 hR0 k hlt
      have hpl := vpc_len B k
      obtain ⟨q, hq⟩ : ∃ q, q = (vpc B k).length := ⟨_, rfl⟩
      rw [← hq] at hs3 hpl
      have hif : (if ((B.length - 32752 * k : Nat) : Int) < 32752 then ((B.length - 32752 * k : Nat) : Int) else 32752) = (q : Int) := by split <;> omega
      obtain ⟨i9, hi9⟩ : ∃ i9, i9 = 32752 * k := ⟨_, rfl⟩
      rw [← hi9] at hs3 hki hif ⊢
      have hwa : IntKind.i64.wrap ((i9 : Int) + (q : Int)) = ((i9 + q : Nat) : Int) := by rw [IntKind.wrap_i64]; omega
      have hwb : IntKind.i64.wrap ((i9 : Int) + 32752) = ((32752 * (k + 1) : Nat) : Int) := by rw [IntKind.wrap_i64]; omega
      have hcm : B.length ≤ c := by obtain ⟨ao', c', e, h1, -⟩ := hR0; simp only [Value.slice.injEq] at e; omega
      have hci : ¬ c = i9 := by omega
      have hq0 : ¬ q = 0 := by omega
      have hpv : vpcv ao B k = .slice (Option.map (fun x => x.add i9) ao) q q := by unfold vpcv; rw [← hq, hi9, Nat.mul_one]
      have hb9 : (i9 : Int) + (q : Int) ≤ (c : Int) := by omega
      have hb8 : (i9 : Int) ≤ (i9 : Int) + (q : Int) := by omega
      have hb7 : (0 : Int) ≤ (i9 : Int) + (q : Int) := by omega
      have HI9 := hid hi9
      have HR3 := hid hr3
      clear hR0 hr3 hpl hq hi9
      gi_wp2
      refine wpIn_wide.2 ?_
      go_quiet (fail)
      have hbq : Below wr.heap.size wr (wr.drewN nq) := ⟨rfl, rfl, rfl, Nat.le_refl _, fun _ _ => rfl⟩
      have HJq := hid (HJJ.out _ _ _ HJr.out hbq)
      have HKq := hid (HKt.out _ _ _ HKr9.out (HKb.out _ _ HKr9.out hbq))
      have hrq := HR3.out.old hbq
      clear hbq c0 c1 hif
      generalize wr.drewN nq = wq at *
      obtain ⟨c0, c1, -⟩ := HP.out _ HKq.out
      obtain ⟨fn, tmps, assign, body, hy, hR⟩ := HY.out (List.range k) k wq HJq.out ⟨by simp, hlt, hrq⟩ (HKs.out _ _ HKq.out)
      have HR := hid hR
      rw [hpv] at hy
      clear hR hrq hpv hs3
      gi_wp2
      refine HR.out.mono ?_
      rintro e W3 (⟨rfl, hJ3, hk3, -⟩ | ⟨rfl, hJx3, -⟩)
      · rw [← List.range_succ] at hJ3
        have HJ3 := hid hJ3
        have HB3 := hid (HKt.out _ _ _ HKq.out hk3)
        obtain ⟨e0, e1, -⟩ := HP.out _ HB3.out
        clear hJ3 hk3 c0 c1
        gi_wp2
        go_roundw
        case rel => exact ⟨k + 1, by omega, rfl, HJ3, HB3⟩
        case measure =>
          have := HI9.out
          simp [intOf]
          omega
      · have HJ3 := hid hJx3
        clear hJx3
        gi_wp2
        refine bodyPost_ret (results_none rfl _ _ _) rfl ?_
        exact ⟨⟨_, rfl⟩, .inr ⟨_, HJ3.out⟩⟩
    · gi_wp2
      go_end0
      have hkk : k = (B.length + 32751) / 32752 := by omega
      exact ⟨⟨_, rfl⟩, .inl ⟨_, by rw [hkk], HJr.out⟩⟩
/-- What Chunk gives: a function over two blocks of its own. -/
def VChunkA (ao : Option Addr) (m c : Nat) (w : World) (e : Ending) (w' : World) : Prop :=
  ∃ Bs Bn, e = .returned (.func (.func 119) #[] #[.pointer (some ⟨Bs, 0, none⟩), .pointer (some ⟨Bn, 0, none⟩)]) ∧ w.heap.size ≤ Bs ∧ w.heap.size ≤ Bn ∧ w'.heap[Bs]? = some (.cells #[.slice ao m c] 25 (0, 0)) ∧ w'.heap[Bn]? = some (.cells #[.int .i64 32752] 3 (0, 0)) ∧ Below w.heap.size w w'

theorem vchunk_any (w : World) (ao : Option Addr) (m c : Nat) : Calls Tryz.prog 103 #[.slice ao m c, .int .i64 32752] w (VChunkA ao m c w) := by
  go_enter Tryz.func103, Tryz.ntmps103
  go_wp2_with fail
  go_ret
  exact ⟨w.heap.size, w.heap.size + 1, rfl, Nat.le_refl _, by omega, (Below.heap_alloc _ _ _ (by simp)).trans (heap_alloc_new _ _), heap_alloc2_new _ _ _, ((Below.refl _ _).alloc (Nat.le_refl _) _).alloc (by simp) _⟩
end Go.Proofs.YtddnleofflobhaaGreatDoor

