import Derived.Deep.CutRange
import Derived.WalkKit
import Derived.OpenShut
import Derived.Test.YtddnleofflobhaaGreatDoorRows
import Derived.WalkSpells
import Derived.WalkLawsBesides
import Derived.Laws.AppendOwnNone
import Derived.BigQuiet
import Derived.Deep.QuietTactic
import Derived.Deep.MidRow
import Derived.Laws.MakeOwn
import Derived.Deep.CutBlock
import Derived.Sort.CutIn
import Derived.RangeFuncNested
import Derived.RangeFuncBound
import Derived.RangeFuncCalls
import Derived.RangeFuncLeaves
import Derived.RangeFuncBox
import Derived.Shelf.Abstract
import Derived.Shelf.RegionOpen
import Derived.OwnWalkIn
import Derived.TacticsInMore
import Derived.LoopNIn
import Derived.LoopIn
import Derived.OrdersIn
import Derived.LaidEql
import Derived.Stop.Asserts
import Derived.RowKitTokens
import Derived.Lib.Bytes
import Derived.Deep.RegionHeld3
import Derived.Deep.WholeRow
import Derived.BigRegion
import Derived.Great.BuildSlice
import Derived.Deep.AppendLies
import Derived.StillTailTactics
import Derived.Deep.RegionLaw
import Derived.Great.FillDense
import Derived.Laws.Tables
import Derived.LoopN
import Derived.Deep.OwnRows
import Derived.OwnWalk
import Derived.Deep.Slices
import Derived.Lib.AppendZeros
import Derived.Deep.LoopGhost
import Derived.Deep.RegionWith
import Derived.ArgAppend
import Derived.Lib.SliceRun
import Derived.Deep.RegionHeldLaw
import Derived.ProofKit
import Derived.Deep.Matrix
import Derived.Deep.Grids
import Derived.Test.YtddnleofflobhaaGreatDoorVG1
import Derived.Test.YtddnleofflobhaaGreatDoorVG2
import Derived.Test.YtddnleofflobhaaGreatDoorVG3
import Derived.Test.YtddnleofflobhaaGreatDoorVG4
import Derived.Test.YtddnleofflobhaaGreatDoorVG5
import Derived.Test.YtddnleofflobhaaGreatDoorVG6
import Derived.Test.YtddnleofflobhaaGreatDoorVG7
import Derived.Test.YtddnleofflobhaaGreatDoorVG8
import Derived.Test.YtddnleofflobhaaGreatDoorVG9
import Derived.Test.YtddnleofflobhaaGreatDoorVG10
import Derived.Test.YtddnleofflobhaaGreatDoorVG11
import Derived.Test.YtddnleofflobhaaGreatDoorVG12
import Derived.Test.YtddnleofflobhaaGreatDoorVG13
import Derived.Test.YtddnleofflobhaaGreatDoorVG14
import Derived.Test.YtddnleofflobhaaGreatDoorVG15
import Derived.Test.YtddnleofflobhaaGreatDoorVG16
import Derived.Test.YtddnleofflobhaaGreatDoorVG17
set_option linter.unusedVariables false
set_option linter.unusedSimpArgs false
set_option linter.unusedVariables false
set_option linter.unusedSimpArgs false
set_option maxRecDepth 100000
namespace Go.Proofs.YtddnleofflobhaaGreatDoor
open Go.RowKit Go.Deep

set_option maxHeartbeats 1000000 in
theorem copyBv_any (w : World) (x : Value) (l : List UInt8) (h : Rd w x l) (hl : l.length ≤ 140737488355328) :
    Calls Tryz.prog 26 #[x] w (Gives 5 w l) := by
  have HR := hid h
  obtain ⟨ao, c, rfl, -⟩ := h
  have hown : w.ownsRow w.heap.size 5 1 (.slice none 0 0) 0 [] := World.ownsRow_nil _ _ _ _
  have HR2 := HR.out
  go_enter Tryz.func26, Tryz.ntmps26
  go_wp2_with (first
    | (at_builtin; refine wp_app rfl _ _ 25 rfl w.heap.size 5 Tryz.underlying25 (by kernel_rfl) _ _ _ rfl hown _ l rfl HR2 ?c1 ?c2 ?_))
  case c1 => omega
  case c2 => exact Nat.le_refl _
  intro v' w1 hown' hgrow
  have hb : Below w.heap.size w w1 := (Below.refl _ _).grown hgrow (Nat.le_refl _) (fun k hk => by simp [Value.ownBlock] at hk)
  clear hgrow hown HR2
  go_wp2_with fail
  go_ret
  exact ⟨_, rfl, by simpa using hown', hb⟩

/-- What a copy of a log is. -/
def CpA (l : Lo) (w : World) (en : Ending) (w' : World) : Prop := ∃ is : Lo, en = .returned is.v ∧ is.pl = l.pl ∧ LoAt w' is ∧ Below w.heap.size w w' ∧ ∀ X : Nat → Prop, (∀ k, X k → k < w.heap.size) → LoOff is X

set_option maxHeartbeats 16000000 in
theorem copyLog_any (l : Lo) (w : World) (hl : LoAt w l) (hmax : l.es.length ≤ 1000000000000) : Calls Tryz.prog 10 #[l.v] w (CpA l w) := by
  have HL0 := hid hl
  have hE := hl.es
  have hec : l.es.length ≤ l.ec := by
    obtain ⟨_, _, e1, q1, q2⟩ := hE.1.form
    simp only [Value.slice.injEq, List.length_map] at e1 q1
    omega
  have hlen := fun W => run_len_slice (P := Tryz.prog) W 28 3 l.eo l.es.length l.ec Tryz.underlying28
  have hb : Below w.heap.size w ((w.alloc (.cells #[.int .u64 (l.ht : Int), .int .i64 l.hv, .int .u64 (l.si : Int), .int .u64 (l.st : Int), .slice l.sd.a l.sd.b.length l.sd.c, .slice l.eo l.es.length l.ec] 30)).alloc (.cells #[.int .u64 0, .int .i64 0, .int .u64 0, .int .u64 0, .slice none 0 0, .slice none 0 0] 30)) := ((Below.refl _ _).alloc (Nat.le_refl _) _).alloc (by simp) _
  have h0 := (Below.heap_alloc (w.alloc (.cells #[.int .u64 (l.ht : Int), .int .i64 l.hv, .int .u64 (l.si : Int), .int .u64 (l.st : Int), .slice l.sd.a l.sd.b.length l.sd.c, .slice l.eo l.es.length l.ec] 30)) (.cells #[.int .u64 0, .int .i64 0, .int .u64 0, .int .u64 0, .slice none 0 0, .slice none 0 0] 30) w.heap.size (by simp)).trans (heap_alloc_new w (.cells #[.int .u64 (l.ht : Int), .int .i64 l.hv, .int .u64 (l.si : Int), .int .u64 (l.st : Int), .slice l.sd.a l.sd.b.length l.sd.c, .slice l.eo l.es.length l.ec] 30))
  have h1 := heap_alloc2_new w (.cells #[.int .u64 (l.ht : Int), .int .i64 l.hv, .int .u64 (l.si : Int), .int .u64 (l.st : Int), .slice l.sd.a l.sd.b.length l.sd.c, .slice l.eo l.es.length l.ec] 30) (.cells #[.int .u64 0, .int .i64 0, .int .u64 0, .int .u64 0, .slice none 0 0, .slice none 0 0] 30)
  have hs1 : ((w.alloc (.cells #[.int .u64 (l.ht : Int), .int .i64 l.hv, .int .u64 (l.si : Int), .int .u64 (l.st : Int), .slice l.sd.a l.sd.b.length l.sd.c, .slice l.eo l.es.length l.ec] 30)).alloc (.cells #[.int .u64 0, .int .i64 0, .int .u64 0, .int .u64 0, .slice none 0 0, .slice none 0 0] 30)).heap.size = w.heap.size + 2 := by simp
  obtain ⟨n, hn⟩ : ∃ n, n = l.es.length := ⟨_, rfl⟩
  have HN := hid hn
  simp only [Lo.v]
  rw [← hn] at hlen hec h0 h1 hs1 hb hmax ⊢
  clear hl hE hn
  obtain ⟨eo0, heo0⟩ : ∃ eo0, eo0 = l.eo := ⟨_, rfl⟩
  have HE0 : Hid (Ents w (.slice eo0 n l.ec) l.es) := by show Ents _ _ _; rw [heo0, HN.out]; exact HL0.out.es
  rw [← heo0] at hlen h0 h1 hs1 hb ⊢
  clear heo0
  go_enter Tryz.func10, Tryz.ntmps10
  go_upto_region 1 with fail
  generalize (w.alloc (.cells #[.int .u64 (l.ht : Int), .int .i64 l.hv, .int .u64 (l.si : Int), .int .u64 (l.st : Int), .slice l.sd.a l.sd.b.length l.sd.c, .slice eo0 n l.ec] 30)).alloc (.cells #[.int .u64 0, .int .i64 0, .int .u64 0, .int .u64 0, .slice none 0 0, .slice none 0 0] 30) = w1 at *
  have HB := hid hb
  have HS1 := hid hs1
  have HLw := hid (HL0.out.old hb)
  have H1 := hid h1
  have HC : Hid (∀ V, Below w1.heap.size w1 V → (V.cell? ⟨w.heap.size, 0, none⟩ = some (.int .u64 (l.ht : Int)) ∧ V.cell? ⟨w.heap.size, 1, none⟩ = some (.int .i64 l.hv) ∧ V.cell? ⟨w.heap.size, 2, none⟩ = some (.int .u64 (l.si : Int)) ∧ V.cell? ⟨w.heap.size, 3, none⟩ = some (.int .u64 (l.st : Int)) ∧ V.cell? ⟨w.heap.size, 4, none⟩ = some (.slice l.sd.a l.sd.b.length l.sd.c) ∧ V.cell? ⟨w.heap.size, 5, none⟩ = some (.slice eo0 n l.ec))) := hid fun V h => six_cells ((h.block _ (lt_of_block h0)).trans h0)
  clear hb hs1 h0 h1
  go_wp2_with fail
  go_loopw [3, 4] (fun t i wr => ∃ (m : Nat) (E : List En) (eo : Option Addr) (ec : Nat), m ≤ n ∧ i = .int .i64 (m : Int) ∧ t = .slice eo m ec ∧ Hid (CpL w1 wr l.es E eo ec m)) (fun _ i _ => n - (intOf i).toNat)
  case atStart => exact ⟨0, [], none, 0, by omega, rfl, rfl, CpL.none _ _⟩
  case round =>
    obtain ⟨m, E, eo, ec, hm, rfl, rfl, HI⟩ := hrel
    obtain ⟨z0, z1, z2, z3, z4, z5⟩ := HC.out _ HI.out.below
    by_cases hlt : m < n
    · have hki : (m : Int) < (n : Int) := by omega
      have hz : IntKind.i64.wrap ((m : Int) + 1) = (m : Int) + 1 := by rw [IntKind.wrap_i64]; omega
      have hA9 := List.getElem?_eq_getElem (l := l.es) (i := m) (by have := HN.out; omega)
      generalize l.es[m]'_ = e at hA9
      obtain ⟨b1, o1, ea1, c10, c11, c12, r1⟩ := (HE0.out.old (HB.out.trans (HI.out.below.mono HB.out.size))).get hA9
      subst ea1
      have HG := hid hA9
      have HEI := hid (HE0.out.2 e (List.mem_of_getElem? hA9)).2
      have hWd : Below wr.heap.size wr wr.drew := ⟨rfl, rfl, rfl, Nat.le_refl _, fun _ _ => rfl⟩
      obtain ⟨S9, hS9⟩ : ∃ S9 : World → Prop, S9 = fun V => (∀ k, k < w1.heap.size → V.heap[k]? = wr.heap[k]?) := ⟨_, rfl⟩
      have hlc : ∀ a v, wr.cell? a = some v → a.block < w1.heap.size → ∀ V, S9 V → V.cell? a = some v := fun a v hv hlt V h => by rw [hS9] at h; exact (World.cell?_of_block (w := wr) (a := a) (h _ hlt)).trans hv
      have hbl : w.heap.size < w1.heap.size := by have := HS1.out; omega
      have hb1 : b1 < w1.heap.size := by
        obtain ⟨b9, o9, e9, q9, -⟩ := HE0.out.get hA9
        cases e9
        have := World.block_lt_of_cell? w _ q9
        simp only at this
        omega
      have hY : ∀ V, S9 V → V.cell? ⟨w.heap.size, 5, none⟩ = some (.slice (some ⟨b1, o1, none⟩) n l.ec) ∧ V.cell? ⟨b1, o1 + m * 3, none⟩ = some (.int .u64 (e.t : Int)) ∧ V.cell? ⟨b1, o1 + m * 3 + 1, none⟩ = some (.int .u64 (e.i : Int)) ∧ V.cell? ⟨b1, o1 + m * 3 + 2, none⟩ = some (.slice e.r.a e.r.b.length e.r.c) := fun V h => ⟨hlc _ _ z5 hbl V h, hlc _ _ c10 hb1 V h, hlc _ _ c11 hb1 V h, hlc _ _ c12 hb1 V h⟩
      have HS : Hid (∀ V, Below w1.heap.size wr V → S9 V) := hid fun V h => by rw [hS9]; exact fun k hk => h.block k hk
      have CB : Hid (∀ W, Below wr.heap.size wr W → Calls Tryz.prog 26 #[.slice e.r.a e.r.b.length e.r.c] W (Gives 5 W e.r.b)) := hid fun W hW => copyBv_any W _ _ (r1.old hW) HEI.out.2.2
      go_upto_region 5 with fail
      have HWd := hid hWd
      clear hS9 hlc hb1 hWd c10 c11 c12 r1 hA9 z0 z1 z2 z3 z4
      refine wp_region_noPanic ?_
      refine wp_region_held_drew (S := S9) (by kernel_rfl) (HS.out _ (HWd.out.mono HI.out.below.size)) (fun hHeld => ?_)
      have CBd := hid (CB.out _ HWd.out)
      generalize wr.drew = Wd at *
      refine wpAnyH_take (i := 0) (v := (.slice eo m ec)) rfl (by kernel_rfl) (by kernel_rfl) (by kernel_rfl) (fun _ _ _ h => (show False from h).elim) ?xyVO1 ?xhVO1 ?xrVO1
      case xhVO1 => exact hHeld
      case xyVO1 => exact Or.inl ⟨by rfl, fun W9 hW => by clear hHeld; simp only [List.getElem_toArray, List.getElem_cons_succ, List.getElem_cons_zero]; go_simp⟩
      simp only [Act.put, List.getElem_toArray, List.getElem_cons_succ, List.getElem_cons_zero, List.setIfInBounds_toArray, List.set_cons_succ, List.set_cons_zero]
      refine wpAnyH_take (i := 1) (v := (.pointer (some ⟨w.heap.size, 5, none⟩))) rfl (by kernel_rfl) (by kernel_rfl) (by kernel_rfl) (fun _ _ _ h => (show False from h).elim) ?xyVO2 ?xhVO2 ?xrVO2
      case xhVO2 => exact hHeld
      case xyVO2 => exact Or.inl ⟨by rfl, fun W9 hW => by clear hHeld; simp only [List.getElem_toArray, List.getElem_cons_succ, List.getElem_cons_zero]; go_simp⟩
      simp only [Act.put, List.getElem_toArray, List.getElem_cons_succ, List.getElem_cons_zero, List.setIfInBounds_toArray, List.set_cons_succ, List.set_cons_zero]
      refine wpAnyH_take (i := 2) (v := (.slice (some ⟨b1, o1, none⟩) n l.ec)) rfl (by kernel_rfl) (by kernel_rfl) (by kernel_rfl) (fun _ _ _ h => (show False from h).elim) ?xyVO3 ?xhVO3 ?xrVO3
      case xhVO3 => exact hHeld
      case xyVO3 => exact Or.inl ⟨by rfl, fun W9 hW => by obtain ⟨y0, y1, y2, y3⟩ := hY _ hW; clear hHeld; simp only [List.getElem_toArray, List.getElem_cons_succ, List.getElem_cons_zero]; go_simp⟩
      simp only [Act.put, List.getElem_toArray, List.getElem_cons_succ, List.getElem_cons_zero, List.setIfInBounds_toArray, List.set_cons_succ, List.set_cons_zero]
      refine wpAnyH_take (i := 3) (v := (.int .i64 (m : Int))) rfl (by kernel_rfl) (by kernel_rfl) (by kernel_rfl) (fun _ _ _ h => (show False from h).elim) ?xyVO4 ?xhVO4 ?xrVO4
      case xhVO4 => exact hHeld
      case xyVO4 => exact Or.inl ⟨by rfl, fun W9 hW => by clear hHeld; simp only [List.getElem_toArray, List.getElem_cons_succ, List.getElem_cons_zero]; go_simp⟩
      simp only [Act.put, List.getElem_toArray, List.getElem_cons_succ, List.getElem_cons_zero, List.setIfInBounds_toArray, List.set_cons_succ, List.set_cons_zero]
      refine wpAnyH_take (i := 4) (v := (.pointer (some ⟨b1, o1 + m * 3, none⟩))) rfl (by kernel_rfl) (by kernel_rfl) (by kernel_rfl) (fun _ _ _ h => (show False from h).elim) ?xyVO5 ?xhVO5 ?xrVO5
      case xhVO5 => exact hHeld
      case xyVO5 => exact Or.inl ⟨by rfl, fun W9 hW => by clear hHeld; simp only [List.getElem_toArray, List.getElem_cons_succ, List.getElem_cons_zero]; go_simp⟩
      simp only [Act.put, List.getElem_toArray, List.getElem_cons_succ, List.getElem_cons_zero, List.setIfInBounds_toArray, List.set_cons_succ, List.set_cons_zero]
      refine wpAnyH_take (i := 5) (v := (.pointer (some ⟨b1, o1 + m * 3, none⟩))) rfl (by kernel_rfl) (by kernel_rfl) (by kernel_rfl) (fun _ _ _ h => (show False from h).elim) ?xyVO6 ?xhVO6 ?xrVO6
      case xhVO6 => exact hHeld
      case xyVO6 => exact Or.inl ⟨by rfl, fun W9 hW => by clear hHeld; simp only [List.getElem_toArray, List.getElem_cons_succ, List.getElem_cons_zero]; go_simp⟩
      simp only [Act.put, List.getElem_toArray, List.getElem_cons_succ, List.getElem_cons_zero, List.setIfInBounds_toArray, List.set_cons_succ, List.set_cons_zero]
      refine wpAnyH_take (i := 6) (v := (.int .u64 (e.t : Int))) rfl (by kernel_rfl) (by kernel_rfl) (by kernel_rfl) (fun _ _ _ h => (show False from h).elim) ?xyVO7 ?xhVO7 ?xrVO7
      case xhVO7 => exact hHeld
      case xyVO7 => exact Or.inl ⟨by rfl, fun W9 hW => by obtain ⟨y0, y1, y2, y3⟩ := hY _ hW; clear hHeld; simp only [List.getElem_toArray, List.getElem_cons_succ, List.getElem_cons_zero]; go_simp⟩
      simp only [Act.put, List.getElem_toArray, List.getElem_cons_succ, List.getElem_cons_zero, List.setIfInBounds_toArray, List.set_cons_succ, List.set_cons_zero]
      refine wpAnyH_take (i := 7) (v := (.pointer (some ⟨w.heap.size, 5, none⟩))) rfl (by kernel_rfl) (by kernel_rfl) (by kernel_rfl) (fun _ _ _ h => (show False from h).elim) ?xyVO8 ?xhVO8 ?xrVO8
      case xhVO8 => exact hHeld
      case xyVO8 => exact Or.inl ⟨by rfl, fun W9 hW => by clear hHeld; simp only [List.getElem_toArray, List.getElem_cons_succ, List.getElem_cons_zero]; go_simp⟩
      simp only [Act.put, List.getElem_toArray, List.getElem_cons_succ, List.getElem_cons_zero, List.setIfInBounds_toArray, List.set_cons_succ, List.set_cons_zero]
      refine wpAnyH_take (i := 8) (v := (.slice (some ⟨b1, o1, none⟩) n l.ec)) rfl (by kernel_rfl) (by kernel_rfl) (by kernel_rfl) (fun _ _ _ h => (show False from h).elim) ?xyVO9 ?xhVO9 ?xrVO9
      case xhVO9 => exact hHeld
      case xyVO9 => exact Or.inl ⟨by rfl, fun W9 hW => by obtain ⟨y0, y1, y2, y3⟩ := hY _ hW; clear hHeld; simp only [List.getElem_toArray, List.getElem_cons_succ, List.getElem_cons_zero]; go_simp⟩
      simp only [Act.put, List.getElem_toArray, List.getElem_cons_succ, List.getElem_cons_zero, List.setIfInBounds_toArray, List.set_cons_succ, List.set_cons_zero]
      refine wpAnyH_take (i := 9) (v := (.int .i64 (m : Int))) rfl (by kernel_rfl) (by kernel_rfl) (by kernel_rfl) (fun _ _ _ h => (show False from h).elim) ?xyVO10 ?xhVO10 ?xrVO10
      case xhVO10 => exact hHeld
      case xyVO10 => exact Or.inl ⟨by rfl, fun W9 hW => by clear hHeld; simp only [List.getElem_toArray, List.getElem_cons_succ, List.getElem_cons_zero]; go_simp⟩
      simp only [Act.put, List.getElem_toArray, List.getElem_cons_succ, List.getElem_cons_zero, List.setIfInBounds_toArray, List.set_cons_succ, List.set_cons_zero]
      refine wpAnyH_take (i := 10) (v := (.pointer (some ⟨b1, o1 + m * 3, none⟩))) rfl (by kernel_rfl) (by kernel_rfl) (by kernel_rfl) (fun _ _ _ h => (show False from h).elim) ?xyVO11 ?xhVO11 ?xrVO11
      case xhVO11 => exact hHeld
      case xyVO11 => exact Or.inl ⟨by rfl, fun W9 hW => by clear hHeld; simp only [List.getElem_toArray, List.getElem_cons_succ, List.getElem_cons_zero]; go_simp⟩
      simp only [Act.put, List.getElem_toArray, List.getElem_cons_succ, List.getElem_cons_zero, List.setIfInBounds_toArray, List.set_cons_succ, List.set_cons_zero]
      refine wpAnyH_take (i := 11) (v := (.pointer (some ⟨b1, o1 + m * 3 + 1, none⟩))) rfl (by kernel_rfl) (by kernel_rfl) (by kernel_rfl) (fun _ _ _ h => (show False from h).elim) ?xyVO12 ?xhVO12 ?xrVO12
      case xhVO12 => exact hHeld
      case xyVO12 => exact Or.inl ⟨by rfl, fun W9 hW => by clear hHeld; simp only [List.getElem_toArray, List.getElem_cons_succ, List.getElem_cons_zero]; go_simp⟩
      simp only [Act.put, List.getElem_toArray, List.getElem_cons_succ, List.getElem_cons_zero, List.setIfInBounds_toArray, List.set_cons_succ, List.set_cons_zero]
      refine wpAnyH_take (i := 12) (v := (.int .u64 (e.i : Int))) rfl (by kernel_rfl) (by kernel_rfl) (by kernel_rfl) (fun _ _ _ h => (show False from h).elim) ?xyVO13 ?xhVO13 ?xrVO13
      case xhVO13 => exact hHeld
      case xyVO13 => exact Or.inl ⟨by rfl, fun W9 hW => by obtain ⟨y0, y1, y2, y3⟩ := hY _ hW; clear hHeld; simp only [List.getElem_toArray, List.getElem_cons_succ, List.getElem_cons_zero]; go_simp⟩
      simp only [Act.put, List.getElem_toArray, List.getElem_cons_succ, List.getElem_cons_zero, List.setIfInBounds_toArray, List.set_cons_succ, List.set_cons_zero]
      refine wpAnyH_take (i := 13) (v := (.pointer (some ⟨w.heap.size, 5, none⟩))) rfl (by kernel_rfl) (by kernel_rfl) (by kernel_rfl) (fun _ _ _ h => (show False from h).elim) ?xyVO14 ?xhVO14 ?xrVO14
      case xhVO14 => exact hHeld
      case xyVO14 => exact Or.inl ⟨by rfl, fun W9 hW => by clear hHeld; simp only [List.getElem_toArray, List.getElem_cons_succ, List.getElem_cons_zero]; go_simp⟩
      simp only [Act.put, List.getElem_toArray, List.getElem_cons_succ, List.getElem_cons_zero, List.setIfInBounds_toArray, List.set_cons_succ, List.set_cons_zero]
      refine wpAnyH_take (i := 14) (v := (.slice (some ⟨b1, o1, none⟩) n l.ec)) rfl (by kernel_rfl) (by kernel_rfl) (by kernel_rfl) (fun _ _ _ h => (show False from h).elim) ?xyVO15 ?xhVO15 ?xrVO15
      case xhVO15 => exact hHeld
      case xyVO15 => exact Or.inl ⟨by rfl, fun W9 hW => by obtain ⟨y0, y1, y2, y3⟩ := hY _ hW; clear hHeld; simp only [List.getElem_toArray, List.getElem_cons_succ, List.getElem_cons_zero]; go_simp⟩
      simp only [Act.put, List.getElem_toArray, List.getElem_cons_succ, List.getElem_cons_zero, List.setIfInBounds_toArray, List.set_cons_succ, List.set_cons_zero]
      refine wpAnyH_take (i := 15) (v := (.int .i64 (m : Int))) rfl (by kernel_rfl) (by kernel_rfl) (by kernel_rfl) (fun _ _ _ h => (show False from h).elim) ?xyVO16 ?xhVO16 ?xrVO16
      case xhVO16 => exact hHeld
      case xyVO16 => exact Or.inl ⟨by rfl, fun W9 hW => by clear hHeld; simp only [List.getElem_toArray, List.getElem_cons_succ, List.getElem_cons_zero]; go_simp⟩
      simp only [Act.put, List.getElem_toArray, List.getElem_cons_succ, List.getElem_cons_zero, List.setIfInBounds_toArray, List.set_cons_succ, List.set_cons_zero]
      refine wpAnyH_take (i := 16) (v := (.pointer (some ⟨b1, o1 + m * 3, none⟩))) rfl (by kernel_rfl) (by kernel_rfl) (by kernel_rfl) (fun _ _ _ h => (show False from h).elim) ?xyVO17 ?xhVO17 ?xrVO17
      case xhVO17 => exact hHeld
      case xyVO17 => exact Or.inl ⟨by rfl, fun W9 hW => by clear hHeld; simp only [List.getElem_toArray, List.getElem_cons_succ, List.getElem_cons_zero]; go_simp⟩
      simp only [Act.put, List.getElem_toArray, List.getElem_cons_succ, List.getElem_cons_zero, List.setIfInBounds_toArray, List.set_cons_succ, List.set_cons_zero]
      refine wpAnyH_take (i := 17) (v := (.pointer (some ⟨b1, o1 + m * 3 + 2, none⟩))) rfl (by kernel_rfl) (by kernel_rfl) (by kernel_rfl) (fun _ _ _ h => (show False from h).elim) ?xyVO18 ?xhVO18 ?xrVO18
      case xhVO18 => exact hHeld
      case xyVO18 => exact Or.inl ⟨by rfl, fun W9 hW => by clear hHeld; simp only [List.getElem_toArray, List.getElem_cons_succ, List.getElem_cons_zero]; go_simp⟩
      simp only [Act.put, List.getElem_toArray, List.getElem_cons_succ, List.getElem_cons_zero, List.setIfInBounds_toArray, List.set_cons_succ, List.set_cons_zero]
      refine wpAnyH_take (i := 18) (v := (.slice e.r.a e.r.b.length e.r.c)) rfl (by kernel_rfl) (by kernel_rfl) (by kernel_rfl) (fun _ _ _ h => (show False from h).elim) ?xyVO19 ?xhVO19 ?xrVO19
      case xhVO19 => exact hHeld
      case xyVO19 => exact Or.inl ⟨by rfl, fun W9 hW => by obtain ⟨y0, y1, y2, y3⟩ := hY _ hW; clear hHeld; simp only [List.getElem_toArray, List.getElem_cons_succ, List.getElem_cons_zero]; go_simp⟩
      simp only [Act.put, List.getElem_toArray, List.getElem_cons_succ, List.getElem_cons_zero, List.setIfInBounds_toArray, List.set_cons_succ, List.set_cons_zero]
      refine wpAnyH_ready (rs := [19]) (by kernel_rfl) (by simp) ?_
      refine AllReadyH.cons rfl (fun K hK => ?_) AllReadyH.nil
      go_simp
      go_wp2_with (first | (go_at_call 26; refine CBd.out.mono ?_; rintro en wT ⟨vT, rfl, hoT, hbT⟩; have HNT0 := hid hoT; obtain ⟨ta, tc, rfl, hrT⟩ := gives_rd hoT; have HRT := hid hrT; have HTO : Hid (∀ a, ta = some a → Wd.heap.size ≤ a.block) := hid (fun a ha => by subst ha; exact (HNT0.out.lt a.block rfl).1); have HIT := hid (HI.out.old (HWd.out.trans (hbT.mono HWd.out.size))); have HBT := hid ((HWd.out.trans (hbT.mono HWd.out.size)).mono HI.out.below.size); have HWT := hid hbT; clear hbT hrT hoT HNT0))
      refine hK.out _ _ (HS.out _ HBT.out) (fun hHeld => ?_)
      clear hK K
      refine wpAnyH_take (i := 20) (v := (.agg #[.int .u64 (e.t : Int), .int .u64 (e.i : Int), .slice ta e.r.b.length tc])) rfl (by kernel_rfl) (by kernel_rfl) (by kernel_rfl) (fun _ _ _ h => (show False from h).elim) ?xyVO20 ?xhVO20 ?xrVO20
      case xhVO20 => exact hHeld
      case xyVO20 => exact Or.inl ⟨by rfl, fun W9 hW => by clear hHeld; simp only [List.getElem_toArray, List.getElem_cons_succ, List.getElem_cons_zero]; go_simp⟩
      simp only [Act.put, List.getElem_toArray, List.getElem_cons_succ, List.getElem_cons_zero, List.setIfInBounds_toArray, List.set_cons_succ, List.set_cons_zero]
      have hbu : Below wT.heap.size wT (wT.alloc (.cells #[.int .u64 (e.t : Int), .int .u64 (e.i : Int), .slice ta e.r.b.length tc] 63)) := (Below.refl _ _).alloc (Nat.le_refl _) _
      have HBU : Hid (Below w1.heap.size wr (wT.alloc (.cells #[.int .u64 (e.t : Int), .int .u64 (e.i : Int), .slice ta e.r.b.length tc] 63))) := hid (HBT.out.trans (hbu.mono HIT.out.below.size))
      have HEV : Hid (Rd wT (rcv ((⟨e.t, e.i, ⟨ta, tc, e.r.b⟩⟩ : En) : En).r) ((⟨e.t, e.i, ⟨ta, tc, e.r.b⟩⟩ : En) : En).r.b ∧ ((⟨e.t, e.i, ⟨ta, tc, e.r.b⟩⟩ : En) : En).t < 18446744073709551616 ∧ ((⟨e.t, e.i, ⟨ta, tc, e.r.b⟩⟩ : En) : En).i < 18446744073709551616 ∧ ((⟨e.t, e.i, ⟨ta, tc, e.r.b⟩⟩ : En) : En).r.b.length ≤ 140737488355328) := ⟨HRT.out, HEI.out⟩
      have HRW : Hid (Rws 3 (wT.alloc (.cells #[.int .u64 (e.t : Int), .int .u64 (e.i : Int), .slice ta e.r.b.length tc] 63)) (.slice (some ⟨wT.heap.size, 0, none⟩) 1 1) [rowE (⟨e.t, e.i, ⟨ta, tc, e.r.b⟩⟩ : En)]) := Rws.one (r := rowE (⟨e.t, e.i, ⟨ta, tc, e.r.b⟩⟩ : En)) rfl ⟨rfl, fun u hu => by simp only [rowE, rcv, List.mem_cons, List.not_mem_nil, or_false] at hu; rcases hu with rfl | rfl | rfl <;> rfl⟩
      have HOW := hid (own_old HIT.out.own hbu)
      have HSW : Hid (w1.heap.size ≤ (wT.alloc (.cells #[.int .u64 (e.t : Int), .int .u64 (e.i : Int), .slice ta e.r.b.length tc] 63)).heap.size) := by have := HIT.out.below.size; have := hbu.size; show _ ≤ _; omega
      have HOF : Hid ((⟨e.t, e.i, ⟨ta, tc, e.r.b⟩⟩ : En).r.b ≠ [] → ∀ a, (⟨e.t, e.i, ⟨ta, tc, e.r.b⟩⟩ : En).r.a = some a → w1.heap.size ≤ a.block ∧ (Value.slice eo m ec).ownBlock ≠ some a.block) := hid fun _ a ha => ⟨by have := HTO.out a ha; have := HWd.out.size; have := HI.out.below.size; omega, fun e9 => by have := HTO.out a ha; have := (HI.out.own.lt _ e9).2; have := HWd.out.size; omega⟩
      clear hbu
      refine wpAnyH_ready (rs := [21]) (by kernel_rfl) (by simp) ?_
      refine AllReadyH.cons rfl (fun K hK => ?_) AllReadyH.nil
      go_simp
      refine hK.out _ _ (HS.out _ HBU.out) (fun hHeld => ?_)
      clear hK K
      refine wpAnyH_ready (rs := [22]) (by kernel_rfl) (by simp) ?_
      refine AllReadyH.cons rfl (fun K hK => ?_) AllReadyH.nil
      refine step_rapp9 (.tmp 12) (.tmp 33) 28 (by rfl) w1.heap.size 3 40 63 Tryz.underlying28 _ info_entry (by simp [Value.cells]) (by decide) _ m (E.map rowE).flatten (by rfl) HOW.out _ [rowE (⟨e.t, e.i, ⟨ta, tc, e.r.b⟩⟩ : En)] (by rfl) HRW.out (by simp; omega) (by simp [maxLen]; omega) HSW.out (by first | rfl | (simp [Region.wanted, yielded]; done)) (fun v' w' o5 g5 f5 => ?_)
      obtain ⟨po, pc, rfl, HNX0⟩ := HIT.out.next (⟨e.t, e.i, ⟨ta, tc, e.r.b⟩⟩ : En) e HG.out rfl HEV.out HOF.out (.cells #[.int .u64 (e.t : Int), .int .u64 (e.i : Int), .slice ta e.r.b.length tc] 63) o5 g5 f5
      have HNX := hid HNX0
      have HBX := hid (HBU.out.grown g5 HSW.out (fun j e => (HOW.out.lt j e).1))
      clear HNX0 o5 g5 f5
      refine hK.out _ _ (HS.out _ HBX.out) (fun hHeld => ?_)
      clear hK K
      simp only [Act.put, List.getElem_toArray, List.getElem_cons_succ, List.getElem_cons_zero, List.setIfInBounds_toArray, List.set_cons_succ, List.set_cons_zero]
      refine wpAnyH_take (i := 23) (v := (.slice po (m + 1) pc)) rfl (by kernel_rfl) (by kernel_rfl) (by kernel_rfl) (fun _ _ _ h => (show False from h).elim) ?xyVO21 ?xhVO21 ?xrVO21
      case xhVO21 => exact hHeld
      case xyVO21 => exact Or.inl ⟨by rfl, fun W9 hW => by clear hHeld; simp only [List.getElem_toArray, List.getElem_cons_succ, List.getElem_cons_zero]; go_simp⟩
      simp only [Act.put, List.getElem_toArray, List.getElem_cons_succ, List.getElem_cons_zero, List.setIfInBounds_toArray, List.set_cons_succ, List.set_cons_zero]
      refine wpAnyH_done (by kernel_rfl) ?_ _
      refine NoPanic.normal ?_
      go_wp2_with fail
      exact ⟨⟨m + 1, _, po, pc, by omega, by simp, rfl, HNX⟩, by simp only [intOf]; omega⟩
    · obtain rfl : m = n := by omega
      have hki : ¬ (m : Int) < (m : Int) := by omega
      have hWd : Below wr.heap.size wr wr.drew := ⟨rfl, rfl, rfl, Nat.le_refl _, fun _ _ => rfl⟩
      obtain ⟨S9, hS9⟩ : ∃ S9 : World → Prop, S9 = fun V => V.heap[w.heap.size]? = wr.heap[w.heap.size]? := ⟨_, rfl⟩
      have HZ : Hid (∀ V, S9 V → (V.cell? ⟨w.heap.size, 0, none⟩ = some (.int .u64 (l.ht : Int)) ∧ V.cell? ⟨w.heap.size, 1, none⟩ = some (.int .i64 l.hv) ∧ V.cell? ⟨w.heap.size, 2, none⟩ = some (.int .u64 (l.si : Int)) ∧ V.cell? ⟨w.heap.size, 3, none⟩ = some (.int .u64 (l.st : Int)) ∧ V.cell? ⟨w.heap.size, 4, none⟩ = some (.slice l.sd.a l.sd.b.length l.sd.c) ∧ V.cell? ⟨w.heap.size, 5, none⟩ = some (.slice eo0 m l.ec))) := hid fun V h => by rw [hS9] at h; have hq := fun k => World.cell?_of_block (w := wr) (w' := V) (a := ⟨w.heap.size, k, none⟩) h; exact ⟨(hq 0).trans z0, (hq 1).trans z1, (hq 2).trans z2, (hq 3).trans z3, (hq 4).trans z4, (hq 5).trans z5⟩
      have HS : Hid (∀ V, V.heap[w.heap.size]? = wr.heap[w.heap.size]? → S9 V) := hid fun V h => by rw [hS9]; exact h
      have hbl : w.heap.size + 1 < w1.heap.size ∧ w1.heap.size ≤ wr.heap.size := by have := HS1.out; have := HI.out.below.size; omega
      have HBL := hid hbl
      have CB : Hid (∀ W, Below wr.heap.size wr W → Calls Tryz.prog 26 #[.slice l.sd.a l.sd.b.length l.sd.c] W (Gives 5 W l.sd.b)) := hid fun W hW => copyBv_any W _ _ ((HLw.out.sd.old HI.out.below).old hW) HL0.out.sl
      have HWd := hid hWd
      have CBd := hid (CB.out _ hWd)
      go_upto_region 6 with fail
      clear z0 z1 z2 z3 z4 z5 hS9 hWd hbl
      refine wp_region_noPanic ?_
      refine wp_region_held_drew (S := S9) (by kernel_rfl) (HS.out _ rfl) (fun hHeld => ?_)
      have HDW : Hid (wr.drew.heap[w.heap.size]? = wr.heap[w.heap.size]?) := hid rfl
      generalize wr.drew = Wd at *
      refine wpAnyH_take (i := 0) (v := (.pointer (some ⟨w.heap.size, 0, none⟩))) rfl (by kernel_rfl) (by kernel_rfl) (by kernel_rfl) (fun _ _ _ h => (show False from h).elim) ?xyVP1 ?xhVP1 ?xrVP1
      case xhVP1 => exact hHeld
      case xyVP1 => exact Or.inl ⟨by rfl, fun W9 hW => by clear hHeld; simp only [List.getElem_toArray, List.getElem_cons_succ, List.getElem_cons_zero]; go_simp⟩
      simp only [Act.put, List.getElem_toArray, List.getElem_cons_succ, List.getElem_cons_zero, List.setIfInBounds_toArray, List.set_cons_succ, List.set_cons_zero]
      refine wpAnyH_take (i := 1) (v := (.agg #[.int .u64 (l.ht : Int), .int .i64 l.hv])) rfl (by kernel_rfl) (by kernel_rfl) (by kernel_rfl) (fun _ _ _ h => (show False from h).elim) ?xyVP2 ?xhVP2 ?xrVP2
      case xhVP2 => exact hHeld
      case xyVP2 => exact Or.inl ⟨by rfl, fun W9 hW => by obtain ⟨y0, y1, y2, y3, y4, y5⟩ := HZ.out _ hW; clear hHeld; simp only [List.getElem_toArray, List.getElem_cons_succ, List.getElem_cons_zero]; go_simp⟩
      simp only [Act.put, List.getElem_toArray, List.getElem_cons_succ, List.getElem_cons_zero, List.setIfInBounds_toArray, List.set_cons_succ, List.set_cons_zero]
      refine wpAnyH_take (i := 2) (v := (.pointer (some ⟨w.heap.size, 2, none⟩))) rfl (by kernel_rfl) (by kernel_rfl) (by kernel_rfl) (fun _ _ _ h => (show False from h).elim) ?xyVP3 ?xhVP3 ?xrVP3
      case xhVP3 => exact hHeld
      case xyVP3 => exact Or.inl ⟨by rfl, fun W9 hW => by clear hHeld; simp only [List.getElem_toArray, List.getElem_cons_succ, List.getElem_cons_zero]; go_simp⟩
      simp only [Act.put, List.getElem_toArray, List.getElem_cons_succ, List.getElem_cons_zero, List.setIfInBounds_toArray, List.set_cons_succ, List.set_cons_zero]
      refine wpAnyH_take (i := 3) (v := (.pointer (some ⟨w.heap.size, 2, none⟩))) rfl (by kernel_rfl) (by kernel_rfl) (by kernel_rfl) (fun _ _ _ h => (show False from h).elim) ?xyVP4 ?xhVP4 ?xrVP4
      case xhVP4 => exact hHeld
      case xyVP4 => exact Or.inl ⟨by rfl, fun W9 hW => by clear hHeld; simp only [List.getElem_toArray, List.getElem_cons_succ, List.getElem_cons_zero]; go_simp⟩
      simp only [Act.put, List.getElem_toArray, List.getElem_cons_succ, List.getElem_cons_zero, List.setIfInBounds_toArray, List.set_cons_succ, List.set_cons_zero]
      refine wpAnyH_take (i := 4) (v := (.int .u64 (l.si : Int))) rfl (by kernel_rfl) (by kernel_rfl) (by kernel_rfl) (fun _ _ _ h => (show False from h).elim) ?xyVP5 ?xhVP5 ?xrVP5
      case xhVP5 => exact hHeld
      case xyVP5 => exact Or.inl ⟨by rfl, fun W9 hW => by obtain ⟨y0, y1, y2, y3, y4, y5⟩ := HZ.out _ hW; clear hHeld; simp only [List.getElem_toArray, List.getElem_cons_succ, List.getElem_cons_zero]; go_simp⟩
      simp only [Act.put, List.getElem_toArray, List.getElem_cons_succ, List.getElem_cons_zero, List.setIfInBounds_toArray, List.set_cons_succ, List.set_cons_zero]
      refine wpAnyH_take (i := 5) (v := (.pointer (some ⟨w.heap.size, 2, none⟩))) rfl (by kernel_rfl) (by kernel_rfl) (by kernel_rfl) (fun _ _ _ h => (show False from h).elim) ?xyVP6 ?xhVP6 ?xrVP6
      case xhVP6 => exact hHeld
      case xyVP6 => exact Or.inl ⟨by rfl, fun W9 hW => by clear hHeld; simp only [List.getElem_toArray, List.getElem_cons_succ, List.getElem_cons_zero]; go_simp⟩
      simp only [Act.put, List.getElem_toArray, List.getElem_cons_succ, List.getElem_cons_zero, List.setIfInBounds_toArray, List.set_cons_succ, List.set_cons_zero]
      refine wpAnyH_take (i := 6) (v := (.pointer (some ⟨w.heap.size, 3, none⟩))) rfl (by kernel_rfl) (by kernel_rfl) (by kernel_rfl) (fun _ _ _ h => (show False from h).elim) ?xyVP7 ?xhVP7 ?xrVP7
      case xhVP7 => exact hHeld
      case xyVP7 => exact Or.inl ⟨by rfl, fun W9 hW => by clear hHeld; simp only [List.getElem_toArray, List.getElem_cons_succ, List.getElem_cons_zero]; go_simp⟩
      simp only [Act.put, List.getElem_toArray, List.getElem_cons_succ, List.getElem_cons_zero, List.setIfInBounds_toArray, List.set_cons_succ, List.set_cons_zero]
      refine wpAnyH_take (i := 7) (v := (.int .u64 (l.st : Int))) rfl (by kernel_rfl) (by kernel_rfl) (by kernel_rfl) (fun _ _ _ h => (show False from h).elim) ?xyVP8 ?xhVP8 ?xrVP8
      case xhVP8 => exact hHeld
      case xyVP8 => exact Or.inl ⟨by rfl, fun W9 hW => by obtain ⟨y0, y1, y2, y3, y4, y5⟩ := HZ.out _ hW; clear hHeld; simp only [List.getElem_toArray, List.getElem_cons_succ, List.getElem_cons_zero]; go_simp⟩
      simp only [Act.put, List.getElem_toArray, List.getElem_cons_succ, List.getElem_cons_zero, List.setIfInBounds_toArray, List.set_cons_succ, List.set_cons_zero]
      refine wpAnyH_take (i := 8) (v := (.pointer (some ⟨w.heap.size, 2, none⟩))) rfl (by kernel_rfl) (by kernel_rfl) (by kernel_rfl) (fun _ _ _ h => (show False from h).elim) ?xyVP9 ?xhVP9 ?xrVP9
      case xhVP9 => exact hHeld
      case xyVP9 => exact Or.inl ⟨by rfl, fun W9 hW => by clear hHeld; simp only [List.getElem_toArray, List.getElem_cons_succ, List.getElem_cons_zero]; go_simp⟩
      simp only [Act.put, List.getElem_toArray, List.getElem_cons_succ, List.getElem_cons_zero, List.setIfInBounds_toArray, List.set_cons_succ, List.set_cons_zero]
      refine wpAnyH_take (i := 9) (v := (.pointer (some ⟨w.heap.size, 4, none⟩))) rfl (by kernel_rfl) (by kernel_rfl) (by kernel_rfl) (fun _ _ _ h => (show False from h).elim) ?xyVP10 ?xhVP10 ?xrVP10
      case xhVP10 => exact hHeld
      case xyVP10 => exact Or.inl ⟨by rfl, fun W9 hW => by clear hHeld; simp only [List.getElem_toArray, List.getElem_cons_succ, List.getElem_cons_zero]; go_simp⟩
      simp only [Act.put, List.getElem_toArray, List.getElem_cons_succ, List.getElem_cons_zero, List.setIfInBounds_toArray, List.set_cons_succ, List.set_cons_zero]
      refine wpAnyH_take (i := 10) (v := (.slice l.sd.a l.sd.b.length l.sd.c)) rfl (by kernel_rfl) (by kernel_rfl) (by kernel_rfl) (fun _ _ _ h => (show False from h).elim) ?xyVP11 ?xhVP11 ?xrVP11
      case xhVP11 => exact hHeld
      case xyVP11 => exact Or.inl ⟨by rfl, fun W9 hW => by obtain ⟨y0, y1, y2, y3, y4, y5⟩ := HZ.out _ hW; clear hHeld; simp only [List.getElem_toArray, List.getElem_cons_succ, List.getElem_cons_zero]; go_simp⟩
      simp only [Act.put, List.getElem_toArray, List.getElem_cons_succ, List.getElem_cons_zero, List.setIfInBounds_toArray, List.set_cons_succ, List.set_cons_zero]
      refine wpAnyH_take (i := 13) (v := (.slice eo m ec)) rfl (by kernel_rfl) (by kernel_rfl) (by kernel_rfl) (fun _ _ _ h => (show False from h).elim) ?xyVP12 ?xhVP12 ?xrVP12
      case xhVP12 => exact hHeld
      case xyVP12 => exact Or.inl ⟨by rfl, fun W9 hW => by clear hHeld; simp only [List.getElem_toArray, List.getElem_cons_succ, List.getElem_cons_zero]; go_simp⟩
      simp only [Act.put, List.getElem_toArray, List.getElem_cons_succ, List.getElem_cons_zero, List.setIfInBounds_toArray, List.set_cons_succ, List.set_cons_zero]
      refine wpAnyH_ready (rs := [11]) (by kernel_rfl) (by simp) ?_
      refine AllReadyH.cons rfl (fun K hK => ?_) AllReadyH.nil
      go_simp
      go_wp2_with (first | (go_at_call 26; refine CBd.out.mono ?_; rintro en wT ⟨vT, rfl, hoT, hbT⟩; have HNT0 := hid hoT; obtain ⟨ta, tc, rfl, hrT⟩ := gives_rd hoT; have HRT := hid hrT; have HTO : Hid (∀ a, ta = some a → Wd.heap.size ≤ a.block) := hid (fun a ha => by subst ha; exact (HNT0.out.lt a.block rfl).1); have HIT := hid (HI.out.old (HWd.out.trans (hbT.mono HWd.out.size))); have HBT := hid (HWd.out.trans (hbT.mono HWd.out.size)); clear hbT hrT hoT HNT0))
      refine hK.out _ _ (HS.out _ (HBT.out.block _ (by have := HBL.out; omega))) (fun hHeld => ?_)
      clear hK K
      refine wpAnyH_take (i := 12) (v := (.agg #[.int .u64 (l.si : Int), .int .u64 (l.st : Int), .slice ta l.sd.b.length tc])) rfl (by kernel_rfl) (by kernel_rfl) (by kernel_rfl) (fun _ _ _ h => (show False from h).elim) ?xyVP13 ?xhVP13 ?xrVP13
      case xhVP13 => exact hHeld
      case xyVP13 => exact Or.inl ⟨by rfl, fun W9 hW => by clear hHeld; simp only [List.getElem_toArray, List.getElem_cons_succ, List.getElem_cons_zero]; go_simp⟩
      simp only [Act.put, List.getElem_toArray, List.getElem_cons_succ, List.getElem_cons_zero, List.setIfInBounds_toArray, List.set_cons_succ, List.set_cons_zero]
      refine wpAnyH_take (i := 14) (v := (.agg #[.int .u64 (l.ht : Int), .int .i64 l.hv, .int .u64 (l.si : Int), .int .u64 (l.st : Int), .slice ta l.sd.b.length tc, .slice eo m ec])) rfl (by kernel_rfl) (by kernel_rfl) (by kernel_rfl) (fun _ _ _ h => (show False from h).elim) ?xyVP14 ?xhVP14 ?xrVP14
      case xhVP14 => exact hHeld
      case xyVP14 => exact Or.inl ⟨by rfl, fun W9 hW => by clear hHeld; simp only [List.getElem_toArray, List.getElem_cons_succ, List.getElem_cons_zero]; go_simp⟩
      simp only [Act.put, List.getElem_toArray, List.getElem_cons_succ, List.getElem_cons_zero, List.setIfInBounds_toArray, List.set_cons_succ, List.set_cons_zero]
      have hT1 := (HIT.out.below.block _ (lt_of_block H1.out)).trans H1.out
      obtain ⟨r0, r1, r2, r3, r4, r5⟩ := six_cells hT1
      have fb : ∀ k, wT.frozen? ⟨w.heap.size + 1, k, none⟩ = false := fun k => by simp [World.frozen?, hT1]
      have f0 := fb 0
      have f1 := fb 1
      have f2 := fb 2
      have f3 := fb 3
      have f4 := fb 4
      have f5 := fb 5
      have HT1 := hid hT1
      clear fb hT1
      refine wpAnyH_ready (rs := [15]) (by kernel_rfl) (by simp) ?_
      refine AllReadyH.cons rfl (fun K hK => ?_) AllReadyH.nil
      go_simp
      have HKS := hid (keep_six wT (w.heap.size + 1) (.int .u64 (l.ht : Int)) (.int .i64 l.hv) (.int .u64 (l.si : Int)) (.int .u64 (l.st : Int)) (.slice ta l.sd.b.length tc) (.slice eo m ec))
      refine hK.out _ _ (HS.out _ ((HKS.out.block _ (by have := HBL.out; have := HBT.out.size; omega) (by omega)).trans (HBT.out.block _ (by have := HBL.out; omega)))) (fun hHeld => ?_)
      clear hK K r0 r1 r2 r3 r4 r5 f0 f1 f2 f3 f4 f5
      refine wpAnyH_done (by kernel_rfl) ?_ _
      refine NoPanic.normal ?_
      go_wp2_with fail
      have hset := six_set HT1.out (.int .u64 (l.ht : Int)) (.int .i64 l.hv) (.int .u64 (l.si : Int)) (.int .u64 (l.st : Int)) (.slice ta l.sd.b.length tc) (.slice eo m ec)
      obtain ⟨p1, p2, p3⟩ := HIT.out.lo l HN.out HLw.out ⟨ta, tc, l.sd.b⟩ HRT.out rfl (fun _ a ha => by have := HTO.out a ha; have := HBL.out; have := HWd.out.size; omega)
      refine bodyPost_ret (results_cell_row rfl _ _ (w.heap.size + 1) 30 _ (0, 0) _ rfl hset Tryz.underlying30 rfl (by kernel_rfl)) rfl ?_
      refine ⟨_, ?_, p1, p2.kept HKS.out (p3 _ (fun k e => by have := HBL.out; omega)), ?_, fun X hX => p3 X (fun k hk => by have := hX k hk; have := HBL.out; omega)⟩
      · simp only [Lo.v]
        rw [HIT.out.len]
      · have hb9 := HB.out.trans (HIT.out.below.mono HB.out.size)
        exact hb9.trans (HKS.out.below hb9.size (fun j e => by rw [e]; omega))
end Go.Proofs.YtddnleofflobhaaGreatDoor

set_option linter.unusedVariables false
set_option linter.unusedSimpArgs false
set_option maxRecDepth 100000
namespace Go.Proofs.YtddnleofflobhaaGreatDoor
open Go.RowKit Go.Deep

/-- One cell of a row of one's own. -/
theorem own_put {w : World} {base : Nat} {e : TypeId} {size n c g k : Nat} {xs : List Value} (h : w.ownsRow base e size (.slice (some ⟨g, 0, none⟩) n c) n xs) (hk : k < n * size) (x : Value) :
    (w.setCell ⟨g, k, none⟩ x).ownsRow base e size (.slice (some ⟨g, 0, none⟩) n c) n (xs.set k x) := by
  obtain ⟨h1, h2⟩ := h
  refine ⟨by rw [List.length_set]; exact h1, ?_⟩
  rcases h2 with ⟨h2, _⟩ | ⟨g', cap, cur, hv, hb, hg, hc, hm2, hs, ht⟩
  · cases h2
  · simp only [Value.slice.injEq, Option.some.injEq, Addr.mk.injEq, and_true, true_and] at hv
    obtain ⟨rfl, rfl⟩ := hv
    refine .inr ⟨g, c, _, rfl, hb, set_at x hg, hc, hm2, by rw [Array.size_setIfInBounds]; exact hs, ?_⟩
    rw [Array.toList_setIfInBounds, ← ht, List.take_set]
theorem row_set : ∀ (F : List En) (k : Nat) (e : En) (r : Rc), F[k]? = some e → (F.map rowE).flatten.set (k * 3 + 2) (rcv r) = ((F.set k ⟨e.t, e.i, r⟩).map rowE).flatten
  | [], k, e, r, h => by cases h
  | x :: F, 0, e, r, h => by
    simp only [List.getElem?_cons_zero, Option.some.injEq] at h
    subst h
    simp [rowE]
  | x :: F, k + 1, e, r, h => by
    simp only [List.getElem?_cons_succ] at h
    have := row_set F k e r h
    simp only [List.map_cons, List.flatten_cons, List.set_cons_succ]
    rw [← this, List.set_append, if_neg (by simp [rowE]; omega)]
    congr 2
    simp [rowE]
    omega

/-- The first m of the entries have bytes of their own. -/
structure ClL (B : Nat) (V : World) (L F : List En) (yo : Option Addr) (c m : Nat) : Prop where
  len : F.length = L.length
  pe : F.map En.pe = L.map En.pe
  own : V.ownsRow B 63 3 (.slice yo F.length c) F.length (F.map rowE).flatten
  each : ∀ e ∈ F, Rd V (rcv e.r) e.r.b ∧ e.t < 18446744073709551616 ∧ e.i < 18446744073709551616 ∧ e.r.b.length ≤ 140737488355328
  off : ∀ e ∈ F, e.r.b ≠ [] → ∀ a, e.r.a = some a → (Value.slice yo F.length c).ownBlock ≠ some a.block
  new : ∀ j e, F[j]? = some e → j < m → e.r.b ≠ [] → ∀ a, e.r.a = some a → B ≤ a.block
section
variable {B : Nat} {V V' : World} {L F : List En} {yo : Option Addr} {g c m : Nat}
theorem ClL.old (h : ClL B V L F yo c m) (hb : Below V.heap.size V V') : ClL B V' L F yo c m :=
  ⟨h.len, h.pe, own_old h.own hb, fun e he => ⟨(h.each e he).1.old hb, (h.each e he).2⟩, h.off, h.new⟩
theorem ClL.next (h : ClL B V L F (some ⟨g, 0, none⟩) c m) (e : En) (he : F[m]? = some e) (r : Rc) (hr : Rd V (rcv r) r.b) (hrb : r.b = e.r.b) (hro : r.b ≠ [] → ∀ a, r.a = some a → B ≤ a.block ∧ a.block ≠ g) :
    ClL B (V.setCell ⟨g, m * 3 + 2, none⟩ (rcv r)) L (F.set m ⟨e.t, e.i, r⟩) (some ⟨g, 0, none⟩) c (m + 1) := by
  have hm := (List.getElem?_eq_some_iff.1 he).1
  have hme := List.mem_of_getElem? he
  have hk : Keep (fun j => j = g) V (V.setCell ⟨g, m * 3 + 2, none⟩ (rcv r)) := Keep.set (X := fun j => j = g) V ⟨g, m * 3 + 2, none⟩ _ rfl
  have hrd : ∀ (x : Rc), Rd V (rcv x) x.b → (x.b ≠ [] → ∀ a, x.a = some a → a.block ≠ g) → Rd (V.setCell ⟨g, m * 3 + 2, none⟩ (rcv r)) (rcv x) x.b := fun x hx hoff =>
    hx.keep hk (fun hne j hj e9 => by
      obtain ⟨a9, ha9, hak⟩ := blk_of hj
      exact hoff hne a9 ha9 (by rw [hak]; exact e9))
  have hall : ∀ y ∈ F.set m ⟨e.t, e.i, r⟩, (Rd V (rcv y.r) y.r.b ∧ y.t < 18446744073709551616 ∧ y.i < 18446744073709551616 ∧ y.r.b.length ≤ 140737488355328) ∧ (y.r.b ≠ [] → ∀ a, y.r.a = some a → a.block ≠ g) := fun y hy => by
    rcases List.mem_or_eq_of_mem_set hy with hy | rfl
    · exact ⟨h.each y hy, fun hne a ha e9 => h.off y hy hne a ha (by rw [e9]; rfl)⟩
    · have h9 := h.each e hme
      exact ⟨⟨hr, h9.2.1, h9.2.2.1, by show r.b.length ≤ _; rw [hrb]; exact h9.2.2.2⟩, fun hne a ha => (hro hne a ha).2⟩
  refine ⟨by rw [List.length_set]; exact h.len, ?_, ?_, fun y hy => ⟨hrd _ (hall y hy).1.1 (hall y hy).2, (hall y hy).1.2⟩, fun y hy hne a ha e9 => (hall y hy).2 hne a ha (Option.some.inj e9).symm, fun j y hj hlt hne a ha => ?_⟩
  · rw [List.map_set, ← h.pe]
    have h9 : En.pe ⟨e.t, e.i, r⟩ = En.pe e := by unfold En.pe; simp only [hrb]
    rw [h9]
    refine List.ext_getElem? fun j => ?_
    by_cases hj : m = j
    · subst hj
      rw [List.getElem?_set_self (by rw [List.length_map]; exact hm), List.getElem?_map, he]
      rfl
    · rw [List.getElem?_set_ne hj]
  · rw [List.length_set, ← row_set F m e r he]
    exact own_put h.own (by omega) _
  · by_cases hjm : j = m
    · subst hjm
      rw [List.getElem?_set_self hm] at hj
      cases hj
      exact (hro hne a ha).1
    · rw [List.getElem?_set_ne (fun e => hjm e.symm)] at hj
      exact h.new j y hj (by omega) hne a ha
theorem ClL.start {w w' : World} {E : List En} {x : Value} (hE : Ents w x E) (hw : Below w.heap.size w w') {yo : Option Addr} {c : Nat} (hB : w.heap.size ≤ B) (ho : w'.ownsRow B 63 3 (.slice yo E.length c) E.length (E.map rowE).flatten) : ClL B w' E E yo c 0 :=
  ⟨rfl, rfl, ho, fun e he => ⟨(hE.2 e he).1.old hw, (hE.2 e he).2⟩, fun e he hne a ha e9 => by
    have h1 := rd_block (hE.2 e he).1 hne a ha
    have h2 := (ho.lt _ e9).1
    omega, fun j e _ h => by omega⟩
/-- What stays but for blocks below the row. -/
theorem ClL.keep {X : Nat → Prop} (h : ClL B V L F yo c m) (hk : Keep X V V') (h1 : ∀ k, (Value.slice yo F.length c).ownBlock = some k → ¬ X k) (h2 : ∀ e ∈ F, e.r.b ≠ [] → ∀ a, e.r.a = some a → ¬ X a.block) : ClL B V' L F yo c m :=
  ⟨h.len, h.pe, own_keep h.own hk h1, fun e he => ⟨(h.each e he).1.keep hk (fun hne j hj e9 => by
    obtain ⟨a9, ha9, hak⟩ := blk_of hj
    exact h2 e he hne a9 ha9 (by rw [hak]; exact e9)), (h.each e he).2⟩, h.off, h.new⟩
end
end Go.Proofs.YtddnleofflobhaaGreatDoor

