import Derived.Deep.CutRange
import Derived.WalkKit
import Derived.OpenShut
import Derived.Test.YtddnleofflobhaaGreatDoorRows
import Derived.WalkSpells
import Derived.WalkLawsBesides
import Derived.Laws.AppendOwnNone
import Derived.BigQuiet
import Derived.Deep.QuietTactic
import Derived.Deep.MidRow
import Derived.Laws.MakeOwn
import Derived.Deep.CutBlock
import Derived.Sort.CutIn
import Derived.RangeFuncNested
import Derived.RangeFuncBound
import Derived.RangeFuncCalls
import Derived.RangeFuncLeaves
import Derived.RangeFuncBox
import Derived.Shelf.Abstract
import Derived.Shelf.RegionOpen
import Derived.OwnWalkIn
import Derived.TacticsInMore
import Derived.LoopNIn
import Derived.LoopIn
import Derived.OrdersIn
import Derived.LaidEql
import Derived.Stop.Asserts
import Derived.RowKitTokens
import Derived.Lib.Bytes
import Derived.Deep.RegionHeld3
import Derived.Deep.WholeRow
import Derived.BigRegion
import Derived.Great.BuildSlice
import Derived.Deep.AppendLies
import Derived.StillTailTactics
import Derived.Deep.RegionLaw
import Derived.Great.FillDense
import Derived.Laws.Tables
import Derived.LoopN
import Derived.Deep.OwnRows
import Derived.OwnWalk
import Derived.Deep.Slices
import Derived.Deep.RegionWith
import Derived.ArgAppend
import Derived.Lib.SliceRun
import Derived.Deep.RegionHeldLaw
import Derived.Deep.LoopGhost
import Derived.Lib.AppendZeros
import Derived.ProofKit
import Derived.Deep.Matrix
import Derived.Deep.Grids
import Derived.Test.YtddnleofflobhaaGreatDoorVG1
import Derived.Test.YtddnleofflobhaaGreatDoorVG2
import Derived.Test.YtddnleofflobhaaGreatDoorVG3
import Derived.Test.YtddnleofflobhaaGreatDoorVG4
import Derived.Test.YtddnleofflobhaaGreatDoorVG5
import Derived.Test.YtddnleofflobhaaGreatDoorVG6
import Derived.Test.YtddnleofflobhaaGreatDoorVG7
import Derived.Test.YtddnleofflobhaaGreatDoorVG8
import Derived.Test.YtddnleofflobhaaGreatDoorVG9
import Derived.Test.YtddnleofflobhaaGreatDoorVG10
import Derived.Test.YtddnleofflobhaaGreatDoorVG11
import Derived.Test.YtddnleofflobhaaGreatDoorVG12
import Derived.Test.YtddnleofflobhaaGreatDoorVG13
import Derived.Test.YtddnleofflobhaaGreatDoorVG14
import Derived.Test.YtddnleofflobhaaGreatDoorVG15
import Derived.Test.YtddnleofflobhaaGreatDoorVG16
set_option linter.unusedVariables false
set_option linter.unusedSimpArgs false
set_option linter.unusedVariables false
set_option linter.unusedSimpArgs false
set_option maxRecDepth 100000
namespace Go.Proofs.YtddnleofflobhaaGreatDoor
open Go.RowKit Go.Deep

theorem LoAt.kept {w w' : World} {l : Lo} {X : Nat → Prop} (h : LoAt w l) (hk : Keep X w w') (ho : LoOff l X) : LoAt w' l := by
  refine ⟨h.sd.keep hk (fun hne k hk9 e => ?_), ⟨h.es.1.keep hk (fun hne k hk9 e => ?_), fun x hx => ⟨(h.es.2 x hx).1.keep hk (fun hne k hk9 e => ?_), (h.es.2 x hx).2⟩⟩, h.ht, h.si, h.st, h.hv, h.sl, h.el⟩
  · obtain ⟨a, ha, hak⟩ := blk_of hk9
    exact ho.1 hne a ha (by rw [hak]; exact e)
  · obtain ⟨a, ha, hak⟩ := blk_of hk9
    exact ho.2.2 (fun h9 => hne (by rw [h9]; rfl)) a ha (by rw [hak]; exact e)
  · obtain ⟨a, ha, hak⟩ := blk_of hk9
    exact ho.2.1 x hx hne a ha (by rw [hak]; exact e)
/-- All of a log's memory is there. -/
theorem LoAt.low {w : World} {l : Lo} (h : LoAt w l) : LoOff l (fun k => w.heap.size ≤ k) := by
  refine ⟨fun hne a ha hk => ?_, fun x hx hne a ha hk => ?_, fun hne a ha hk => ?_⟩
  · have := rd_block h.sd hne a ha; omega
  · have := rd_block (h.es.2 x hx).1 hne a ha; omega
  · obtain ⟨x, hx⟩ : ∃ x, l.es[0]? = some x := ⟨_, List.getElem?_eq_getElem (List.length_pos_iff.2 hne)⟩
    obtain ⟨b, o, e1, c0, -⟩ := h.es.get hx
    rw [e1] at ha
    cases ha
    have := World.block_lt_of_cell? w _ c0
    simp only at this hk
    omega
theorem LoOff.or {l : Lo} {X Y Z : Nat → Prop} (h : LoOff l X) (k : LoOff l Y) (hz : ∀ j, Z j → X j ∨ Y j) : LoOff l Z :=
  ⟨fun hne a ha e => (hz _ e).elim (h.1 hne a ha) (k.1 hne a ha), fun x hx hne a ha e => (hz _ e).elim (h.2.1 x hx hne a ha) (k.2.1 x hx hne a ha), fun hne a ha e => (hz _ e).elim (h.2.2 hne a ha) (k.2.2 hne a ha)⟩

/-- A vault whose log goes on: third, what its records count, what it has. -/
structure Vt (base : Nat) (w : World) (vb lb db sb n : Nat) (vw rv : Value) (R : List Rc) (t q T m third used : Nat) (l : Lo) : Prop where
  log : LiveC base lb db sb n vw rv R t 0 q T m w
  v : w.heap[vb]? = some (.cells #[.pointer (some ⟨lb, 0, none⟩), .int .i64 (third : Int), .int .u64 (l.ht : Int), .int .i64 l.hv, .int .u64 (l.si : Int), .int .u64 (l.st : Int), .slice l.sd.a l.sd.b.length l.sd.c, .slice l.eo l.es.length l.ec, .int .u64 0, .int .i64 (used : Int), .slice none 0 0, .bool false] 81 (0, 0))
  lo : LoAt w l
  nv : ¬ GL db sb vw lb rv vb
  off : LoOff l (GL db sb vw lb rv)
  ov : LoOff l (fun k => k = vb)
  rb : ∀ r ∈ R, r.b ≠ [] → ∀ a, r.a = some a → a.block ≠ vb
section
variable {base : Nat} {w w' : World} {vb lb db sb n t q T m third used : Nat} {vw rv vw' rv' : Value} {R : List Rc} {l : Lo}
theorem Vt.old (h : Vt base w vb lb db sb n vw rv R t q T m third used l) (hb : Below w.heap.size w w') : Vt base w' vb lb db sb n vw rv R t q T m third used l :=
  ⟨h.log.old hb, (hb.block _ (lt_of_block h.v)).trans h.v, h.lo.old hb, h.nv, h.off, h.ov, h.rb⟩
/-- Behind a call of the log's. -/
theorem Vt.gfr {t' q' T' m' : Nat} (h : Vt base w vb lb db sb n vw rv R t q T m third used l) (hl : LiveC base lb db sb n vw' rv' R t' 0 q' T' m' w') (hg : Gfr db sb lb vw vw' rv rv' w w') : Vt base w' vb lb db sb n vw' rv' R t' q' T' m' third used l :=
  ⟨hl, (hg.keep.block _ (lt_of_block h.v) h.nv).trans h.v, h.lo.kept hg.keep h.off, fun e => (hg.new _ e).elim h.nv (fun e => by have := lt_of_block h.v; omega), h.off.or h.lo.low (fun j e => hg.new j e), h.ov, h.rb⟩
theorem vt_cells {V : World} {lb third used vb : Nat} {l : Lo} (h : V.heap[vb]? = some (.cells #[.pointer (some ⟨lb, 0, none⟩), .int .i64 (third : Int), .int .u64 (l.ht : Int), .int .i64 l.hv, .int .u64 (l.si : Int), .int .u64 (l.st : Int), .slice l.sd.a l.sd.b.length l.sd.c, .slice l.eo l.es.length l.ec, .int .u64 0, .int .i64 (used : Int), .slice none 0 0, .bool false] 81 (0, 0))) : V.cell? ⟨vb, 0, none⟩ = some (.pointer (some ⟨lb, 0, none⟩)) ∧ V.cell? ⟨vb, 1, none⟩ = some (.int .i64 (third : Int)) ∧ (V.cell? ⟨vb, 2, none⟩ = some (.int .u64 (l.ht : Int)) ∧ V.cell? ⟨vb, 3, none⟩ = some (.int .i64 l.hv) ∧ V.cell? ⟨vb, 4, none⟩ = some (.int .u64 (l.si : Int)) ∧ V.cell? ⟨vb, 5, none⟩ = some (.int .u64 (l.st : Int)) ∧ V.cell? ⟨vb, 6, none⟩ = some (.slice l.sd.a l.sd.b.length l.sd.c) ∧ V.cell? ⟨vb, 7, none⟩ = some (.slice l.eo l.es.length l.ec)) ∧ V.cell? ⟨vb, 8, none⟩ = some (.int .u64 0) ∧ V.cell? ⟨vb, 9, none⟩ = some (.int .i64 (used : Int)) ∧ V.cell? ⟨vb, 10, none⟩ = some (.slice none 0 0) ∧ V.cell? ⟨vb, 11, none⟩ = some (.bool false) := by
  simp [World.cell?, h]

theorem vnone_any (h : Vt base w vb lb db sb n vw rv R t q T m third used l) : Calls Tryz.prog 41 #[.pointer (some ⟨vb, 0, none⟩)] w (fun e w' => e = .returned (.bool false) ∧ w' = w) := by
  obtain ⟨c0, -⟩ := vt_cells h.v
  clear h
  go_enter Tryz.func41, Tryz.ntmps41
  go_wp2_with fail
  go_ret
  exact ⟨rfl, rfl⟩

/-- What a Sync comes to. -/
def VSyn (base vb lb db sb n : Nat) (vw rv : Value) (R : List Rc) (t T third used : Nat) (l : Lo) (w w' : World) : Prop := ∃ vw', Vt base w' vb lb db sb n vw' rv R t 0 T R.length third used l ∧ Gfr db sb lb vw vw' rv rv w w'
theorem vsync_any (h : Vt base w vb lb db sb n vw rv R t q T m third used l) : Calls Tryz.prog 71 #[.pointer (some ⟨vb, 0, none⟩)] w (fun e w' => e = .returned .nilIface ∧ VSyn base vb lb db sb n vw rv R t T third used l w w') := by
  obtain ⟨c0, -⟩ := vt_cells h.v
  have CS : Hid (Calls Tryz.prog 104 #[.pointer (some ⟨lb, 0, none⟩)] w (fun e w' => e = .returned (.int .i64 0) ∧ VSyn base vb lb db sb n vw rv R t T third used l w w')) := hid ((sync_C h.log).mono fun e w' ⟨he, vw', q1, q2⟩ => ⟨he, vw', h.gfr q1 q2, q2⟩)
  clear h
  go_enter Tryz.func71, Tryz.ntmps71
  go_wp2_with (first
    | (go_at_call 104; refine CS.out.mono ?_; rintro e w2 ⟨rfl, hS⟩)
    | (go_at_call 34; refine (new_ok _ _).mono ?_; rintro e w3 ⟨rfl, rfl⟩))
  go_ret
  exact ⟨rfl, hS⟩

set_option maxHeartbeats 4000000 in
theorem vcut_any (h : Vt base w vb lb db sb n vw rv R t q T m third used l) (hR : R.length ≤ 1000000) : Calls Tryz.prog 63 #[.pointer (some ⟨vb, 0, none⟩)] w (fun e w' => e = .returned .nilIface ∧ VSyn base vb lb db sb n vw rv R t T third used l w w') := by
  have CS : Hid (∀ W, Below w.heap.size w W → Calls Tryz.prog 90 #[.pointer (some ⟨lb, 0, none⟩), .int .u64 0] W (fun e w' => e = .returned (.int .i64 0) ∧ VSyn base vb lb db sb n vw rv R t T third used l w w')) := hid fun W hW => (cut_sameC (h.log.old hW) (by omega)).mono fun e w' ⟨he, vw', q1, q2⟩ => ⟨he, vw', (h.old hW).gfr q1 q2, (Gfr.of_below hW).trans q2⟩
  have hWd : Below w.heap.size w w.drew := ⟨rfl, rfl, rfl, Nat.le_refl _, fun _ _ => rfl⟩
  obtain ⟨S9, hS9⟩ : ∃ S9 : World → Prop, S9 = fun V => V.cell? ⟨vb, 0, none⟩ = some (.pointer (some ⟨lb, 0, none⟩)) ∧ V.cell? ⟨vb, 8, none⟩ = some (.int .u64 0) := ⟨_, rfl⟩
  have hY : ∀ V, S9 V → V.cell? ⟨vb, 0, none⟩ = some (.pointer (some ⟨lb, 0, none⟩)) ∧ V.cell? ⟨vb, 8, none⟩ = some (.int .u64 0) := fun V h => by rw [hS9] at h; exact h
  have HS : Hid (∀ V, V.heap[vb]? = w.heap[vb]? → S9 V) := fun V hV => by rw [hS9]; obtain ⟨c0, -, -, c8, -⟩ := vt_cells (hV.trans h.v); exact ⟨c0, c8⟩
  have HV := hid h.v
  have HNV := hid h.nv
  have CSd := hid (CS.out _ hWd)
  clear hS9 CS
  have HH := hid h
  clear h
  go_enter Tryz.func63, Tryz.ntmps63
  go_upto_region 1 with fail
  refine wp_region_noPanic ?_
  refine wp_region_held_drew (S := S9) (by kernel_rfl) (HS.out _ rfl) (fun hHeld => ?_)
  clear hWd
  have HDW : Hid (w.drew.heap[vb]? = w.heap[vb]?) := hid rfl
  generalize w.drew = Wd at *
  refine wpAnyH_take (i := 0) (v := (.pointer (some ⟨vb, 0, none⟩))) rfl (by kernel_rfl) (by kernel_rfl) (by kernel_rfl) (fun _ _ _ h => (show False from h).elim) ?xyVI1 ?xhVI1 ?xrVI1
  case xhVI1 => exact hHeld
  case xyVI1 => exact Or.inl ⟨by rfl, fun W9 hW => by clear hHeld; simp only [List.getElem_toArray, List.getElem_cons_succ, List.getElem_cons_zero]; go_simp⟩
  simp only [Act.put, List.getElem_toArray, List.getElem_cons_succ, List.getElem_cons_zero, List.setIfInBounds_toArray, List.set_cons_succ, List.set_cons_zero]
  refine wpAnyH_take (i := 1) (v := (.pointer (some ⟨vb, 0, none⟩))) rfl (by kernel_rfl) (by kernel_rfl) (by kernel_rfl) (fun _ _ _ h => (show False from h).elim) ?xyVI2 ?xhVI2 ?xrVI2
  case xhVI2 => exact hHeld
  case xyVI2 => exact Or.inl ⟨by rfl, fun W9 hW => by clear hHeld; simp only [List.getElem_toArray, List.getElem_cons_succ, List.getElem_cons_zero]; go_simp⟩
  simp only [Act.put, List.getElem_toArray, List.getElem_cons_succ, List.getElem_cons_zero, List.setIfInBounds_toArray, List.set_cons_succ, List.set_cons_zero]
  refine wpAnyH_take (i := 2) (v := (.pointer (some ⟨vb, 0, none⟩))) rfl (by kernel_rfl) (by kernel_rfl) (by kernel_rfl) (fun _ _ _ h => (show False from h).elim) ?xyVI3 ?xhVI3 ?xrVI3
  case xhVI3 => exact hHeld
  case xyVI3 => exact Or.inl ⟨by rfl, fun W9 hW => by clear hHeld; simp only [List.getElem_toArray, List.getElem_cons_succ, List.getElem_cons_zero]; go_simp⟩
  simp only [Act.put, List.getElem_toArray, List.getElem_cons_succ, List.getElem_cons_zero, List.setIfInBounds_toArray, List.set_cons_succ, List.set_cons_zero]
  refine wpAnyH_take (i := 3) (v := (.pointer (some ⟨lb, 0, none⟩))) rfl (by kernel_rfl) (by kernel_rfl) (by kernel_rfl) (fun _ _ _ h => (show False from h).elim) ?xyVI4 ?xhVI4 ?xrVI4
  case xhVI4 => exact hHeld
  case xyVI4 => exact Or.inl ⟨by rfl, fun W9 hW => by obtain ⟨y0, y8⟩ := hY _ hW; clear hHeld; simp only [List.getElem_toArray, List.getElem_cons_succ, List.getElem_cons_zero]; go_simp⟩
  simp only [Act.put, List.getElem_toArray, List.getElem_cons_succ, List.getElem_cons_zero, List.setIfInBounds_toArray, List.set_cons_succ, List.set_cons_zero]
  refine wpAnyH_take (i := 4) (v := (.pointer (some ⟨vb, 0, none⟩))) rfl (by kernel_rfl) (by kernel_rfl) (by kernel_rfl) (fun _ _ _ h => (show False from h).elim) ?xyVI5 ?xhVI5 ?xrVI5
  case xhVI5 => exact hHeld
  case xyVI5 => exact Or.inl ⟨by rfl, fun W9 hW => by clear hHeld; simp only [List.getElem_toArray, List.getElem_cons_succ, List.getElem_cons_zero]; go_simp⟩
  simp only [Act.put, List.getElem_toArray, List.getElem_cons_succ, List.getElem_cons_zero, List.setIfInBounds_toArray, List.set_cons_succ, List.set_cons_zero]
  refine wpAnyH_take (i := 5) (v := (.pointer (some ⟨vb, 0, none⟩))) rfl (by kernel_rfl) (by kernel_rfl) (by kernel_rfl) (fun _ _ _ h => (show False from h).elim) ?xyVI6 ?xhVI6 ?xrVI6
  case xhVI6 => exact hHeld
  case xyVI6 => exact Or.inl ⟨by rfl, fun W9 hW => by clear hHeld; simp only [List.getElem_toArray, List.getElem_cons_succ, List.getElem_cons_zero]; go_simp⟩
  simp only [Act.put, List.getElem_toArray, List.getElem_cons_succ, List.getElem_cons_zero, List.setIfInBounds_toArray, List.set_cons_succ, List.set_cons_zero]
  refine wpAnyH_take (i := 6) (v := (.pointer (some ⟨vb, 8, none⟩))) rfl (by kernel_rfl) (by kernel_rfl) (by kernel_rfl) (fun _ _ _ h => (show False from h).elim) ?xyVI7 ?xhVI7 ?xrVI7
  case xhVI7 => exact hHeld
  case xyVI7 => exact Or.inl ⟨by rfl, fun W9 hW => by clear hHeld; simp only [List.getElem_toArray, List.getElem_cons_succ, List.getElem_cons_zero]; go_simp⟩
  simp only [Act.put, List.getElem_toArray, List.getElem_cons_succ, List.getElem_cons_zero, List.setIfInBounds_toArray, List.set_cons_succ, List.set_cons_zero]
  refine wpAnyH_take (i := 7) (v := (.int .u64 0)) rfl (by kernel_rfl) (by kernel_rfl) (by kernel_rfl) (fun _ _ _ h => (show False from h).elim) ?xyVI8 ?xhVI8 ?xrVI8
  case xhVI8 => exact hHeld
  case xyVI8 => exact Or.inl ⟨by rfl, fun W9 hW => by obtain ⟨y0, y8⟩ := hY _ hW; clear hHeld; simp only [List.getElem_toArray, List.getElem_cons_succ, List.getElem_cons_zero]; go_simp⟩
  simp only [Act.put, List.getElem_toArray, List.getElem_cons_succ, List.getElem_cons_zero, List.setIfInBounds_toArray, List.set_cons_succ, List.set_cons_zero]
  refine wpAnyH_ready (rs := [8]) (by kernel_rfl) (by simp) ?_
  refine AllReadyH.cons rfl (fun K hK => ?_) AllReadyH.nil
  go_simp
  go_wp2_with (first | (go_at_call 90; refine CSd.out.mono ?_; rintro e w2 ⟨rfl, hS⟩; have HSy := hid hS; clear hS))
  refine hK.out _ _ (HS.out _ (by obtain ⟨_, q1, q2⟩ := HSy.out; exact q2.keep.block _ (lt_of_block HV.out) HNV.out)) (fun hHeld => ?_)
  clear hK K
  refine wpAnyH_ready (rs := [9]) (by kernel_rfl) (by simp) ?_
  refine AllReadyH.cons rfl (fun K hK => ?_) AllReadyH.nil
  go_simp
  go_wp2_with (first | (go_at_call 34; refine (new_ok _ _).mono ?_; rintro e w3 ⟨rfl, rfl⟩))
  refine hK.out _ _ (HS.out _ (by obtain ⟨_, q1, q2⟩ := HSy.out; exact q2.keep.block _ (lt_of_block HV.out) HNV.out)) (fun hHeld => ?_)
  clear hK K
  refine wpAnyH_take (i := 10) (v := .nilIface) rfl (by kernel_rfl) (by kernel_rfl) (by kernel_rfl) (fun _ _ _ h => (show False from h).elim) ?xyVI9 ?xhVI9 ?xrVI9
  case xhVI9 => exact hHeld
  case xyVI9 => exact Or.inl ⟨by rfl, fun W9 hW => by clear hHeld; simp only [List.getElem_toArray, List.getElem_cons_succ, List.getElem_cons_zero]; go_simp⟩
  simp only [Act.put, List.getElem_toArray, List.getElem_cons_succ, List.getElem_cons_zero, List.setIfInBounds_toArray, List.set_cons_succ, List.set_cons_zero]
  refine wpAnyH_done (by kernel_rfl) ?_ _
  refine NoPanic.normal ?_
  go_wp2_with fail
  go_ret
  exact ⟨rfl, HSy.out⟩
end
end Go.Proofs.YtddnleofflobhaaGreatDoor

set_option linter.unusedVariables false
set_option linter.unusedSimpArgs false
set_option maxRecDepth 100000
namespace Go.Proofs.YtddnleofflobhaaGreatDoor
open Go.RowKit Go.Deep

/-- The first m of the entries L are copied: E; nothing below w's end is written, and the copies lie behind it. -/
structure CpL (w V : World) (L E : List En) (eo : Option Addr) (ec m : Nat) : Prop where
  below : Below w.heap.size w V
  len : E.length = m
  pe : E.map En.pe = (L.map En.pe).take m
  own : V.ownsRow w.heap.size 63 3 (.slice eo m ec) m (E.map rowE).flatten
  each : ∀ e ∈ E, Rd V (rcv e.r) e.r.b ∧ e.t < 18446744073709551616 ∧ e.i < 18446744073709551616 ∧ e.r.b.length ≤ 140737488355328
  new : ∀ e ∈ E, e.r.b ≠ [] → ∀ a, e.r.a = some a → w.heap.size ≤ a.block ∧ (Value.slice eo m ec).ownBlock ≠ some a.block
section
variable {w V V' : World} {L E : List En} {eo : Option Addr} {ec m : Nat}
theorem CpL.none (w : World) (L : List En) : CpL w w L [] none 0 0 :=
  ⟨Below.refl _ _, rfl, by rw [List.take_zero]; rfl, World.ownsRow_nil _ _ _ _, fun _ h => (by cases h), fun _ h => (by cases h)⟩
theorem CpL.old (h : CpL w V L E eo ec m) (hb : Below V.heap.size V V') : CpL w V' L E eo ec m :=
  ⟨h.below.trans (hb.mono h.below.size), h.len, h.pe, own_old h.own hb, fun e he => ⟨(h.each e he).1.old hb, (h.each e he).2⟩, h.new⟩
/-- One more. -/
theorem CpL.next (h : CpL w V L E eo ec m) (e : En) (x : En) (hx : L[m]? = some x) (hep : e.pe = x.pe) (he : Rd V (rcv e.r) e.r.b ∧ e.t < 18446744073709551616 ∧ e.i < 18446744073709551616 ∧ e.r.b.length ≤ 140737488355328) (heo : e.r.b ≠ [] → ∀ a, e.r.a = some a → w.heap.size ≤ a.block ∧ (Value.slice eo m ec).ownBlock ≠ some a.block) (o : Obj) {v' : Value} {V' : World}
    (o5 : V'.ownsRow w.heap.size 63 3 v' (m + [rowE e].length) ((E.map rowE).flatten ++ [rowE e].flatten)) (g5 : (V.alloc o).grownBy V' (Value.slice eo m ec).ownBlock) (f5 : ∀ j, v'.ownBlock = some j → (Value.slice eo m ec).ownBlock = some j ∨ (V.alloc o).heap.size ≤ j) :
    ∃ po pc, v' = .slice po (m + 1) pc ∧ CpL w V' L (E ++ [e]) po pc (m + 1) := by
  have hba : Below V.heap.size V (V.alloc o) := (Below.refl _ _).alloc (Nat.le_refl _) _
  have hsz : (V.alloc o).heap.size = V.heap.size + 1 := by simp
  obtain ⟨po, pc, rfl⟩ := own_form o5
  have hL : m + [rowE e].length = m + 1 := rfl
  rw [hL] at o5 f5 ⊢
  have hk5 : Keep (fun j => (Value.slice eo m ec).ownBlock = some j) (V.alloc o) V' := Keep.of_grown g5 (fun _ e => e)
  have hrd : ∀ xo xc (b : List UInt8), Rd V (.slice xo b.length xc) b → (b ≠ [] → ∀ a, xo = some a → (Value.slice eo m ec).ownBlock ≠ some a.block) → Rd V' (.slice xo b.length xc) b := fun xo xc b hx hoff =>
    (hx.old hba).keep hk5 (fun hne j hj e9 => by
      obtain ⟨a9, ha9, hak⟩ := blk_of hj
      exact hoff hne a9 ha9 (by rw [hak]; exact e9))
  have hall : ∀ y ∈ E ++ [e], (Rd V (rcv y.r) y.r.b ∧ y.t < 18446744073709551616 ∧ y.i < 18446744073709551616 ∧ y.r.b.length ≤ 140737488355328) ∧ (y.r.b ≠ [] → ∀ a, y.r.a = some a → w.heap.size ≤ a.block ∧ (Value.slice eo m ec).ownBlock ≠ some a.block) := fun y hy => by
    rcases List.mem_append.1 hy with hy | hy
    · exact ⟨h.each y hy, h.new y hy⟩
    · obtain rfl := List.mem_singleton.1 hy
      exact ⟨he, heo⟩
  have hbV : Below w.heap.size w (V.alloc o) := h.below.trans (hba.mono h.below.size)
  refine ⟨po, pc, rfl, hbV.trans (hk5.below hbV.size (fun j e => ?_)), by rw [List.length_append, h.len]; rfl, ?_, ?_, fun y hy => ⟨hrd _ _ _ (hall y hy).1.1 (fun hne a ha => ((hall y hy).2 hne a ha).2), (hall y hy).1.2⟩, fun y hy hne a ha => ⟨((hall y hy).2 hne a ha).1, fun e9 => ?_⟩⟩
  · exact (h.own.lt j e).1
  · rw [List.map_append, h.pe, List.take_add_one, List.getElem?_map, hx]
    simp only [List.map_cons, List.map_nil, Option.map_some, Option.toList_some, hep]
  · rw [List.map_append, List.flatten_append]
    exact o5
  · rcases f5 _ e9 with e8 | e8
    · exact ((hall y hy).2 hne a ha).2 e8
    · have := rd_block (hall y hy).1.1 hne a ha
      omega
/-- All are copied, and the snapshot's bytes. -/
theorem CpL.lo (l : Lo) (h : CpL w V l.es E eo ec m) (hm : m = l.es.length) (hl : LoAt w l) (sr : Rc) (hs : Rd V (rcv sr) sr.b) (hsb : sr.b = l.sd.b) (hsn : sr.b ≠ [] → ∀ a, sr.a = some a → w.heap.size ≤ a.block) :
    (Lo.mk l.ht l.hv l.si l.st sr eo ec E).pl = l.pl ∧ LoAt V ⟨l.ht, l.hv, l.si, l.st, sr, eo, ec, E⟩ ∧ ∀ X : Nat → Prop, (∀ k, X k → k < w.heap.size) → LoOff ⟨l.ht, l.hv, l.si, l.st, sr, eo, ec, E⟩ X := by
  have hE : Ents V (.slice eo E.length ec) E := ents_own (B := w.heap.size) (by have h9 := h.own; rw [← h.len] at h9; exact h9) h.each
  refine ⟨?_, ⟨hs, hE, hl.ht, hl.si, hl.st, hl.hv, by show sr.b.length ≤ _; rw [hsb]; exact hl.sl, by show E.length ≤ _; rw [h.len, hm]; exact hl.el⟩, fun X hX => ⟨fun hne a ha e => ?_, fun e he hne a ha e9 => ?_, fun hne a ha e9 => ?_⟩⟩
  · unfold Lo.pl
    simp only
    rw [h.pe, hsb, List.take_of_length_le (by rw [List.length_map]; omega)]
  · have := hsn hne a ha; have := hX _ e; omega
  · have := (h.new e he hne a ha).1; have := hX _ e9; omega
  · have h9 := h.own
    simp only at ha hne
    subst ha
    have h8 := (h9.lt a.block rfl).1
    have := hX _ e9
    omega
end
end Go.Proofs.YtddnleofflobhaaGreatDoor

