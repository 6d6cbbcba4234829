import Derived.Deep.CutRange
import Derived.Deep.CutBlock
import Derived.Test.YtpdmocdfnakggaaDoorRows
import Derived.WalkKit
import Derived.WalkSpells
import Derived.WalkLawsBesides
import Derived.Laws.AppendOwnNone
import Derived.Test.YtpdmocdfnakggaaDoorProg
import Derived.LaidEql
import Derived.Stop.Asserts
import Derived.RowKitTokens
import Derived.ProofKit
import Derived.OpenShut
import Derived.ShutString
import Derived.ChangeOld
import Derived.Below
import Derived.SizedLaws
import Derived.Deep.Slices
import Derived.Deep.AppendLies
import Derived.BigQuiet
import Derived.Deep.QuietTactic
import Derived.Deep.RegionWith
import Derived.Deep.RegionHeld3
import Derived.Deep.Strs
import Derived.Lib.Bytealg
import GoSem.Op.String
import Derived.Deep.RegionHeld
import Derived.Lib.Bytes
import Derived.Deep.OwnRows
import Derived.OwnWalk
import Derived.Lib.AppendZeros
import Derived.Deep.RegionLaw
import Derived.Laws.OwnMore
import Derived.Test.YtpdmocdfnakggaaDoorZB1
import Derived.Test.YtpdmocdfnakggaaDoorZB2
import Derived.Test.YtpdmocdfnakggaaDoorZB3
set_option linter.unusedVariables false
set_option linter.unusedSimpArgs false
set_option linter.unusedVariables false
set_option linter.unusedSimpArgs false
set_option maxRecDepth 100000
namespace Go.Proofs.YtpdmocdfnakggaaDoor.rowsBack
open Go.RowKit Go.Deep

theorem bfield (x y : Value) (V : World) : (Instr.field 34 (.agg #[x, y, .int .i64 0]) 0).run Tryd.prog V = .ok x V := by kernel_rfl

theorem zbytes_eq {w : World} {x y : Value} {A B : List UInt8} {b : Bool} (hx : Rd w x A) (hy : Rd w y B) (h : (A == B) = b) : Calls Tryd.prog 12 #[x, y] w (Ans w (.bool b)) := by
  refine (zbytes_any w hx hy).mono ?_
  rintro e w' ⟨rfl, hw⟩
  subst hw
  rw [h]
  exact ⟨rfl, Below.refl _ _⟩

set_option maxHeartbeats 32000000 in
theorem walk0 {cs ds : List Value} {T : Tab} {X : Idx} {x2 x3 : Value} {r s : List Vl} (W : World) (hT : TabN (Low W) W cs T) (hTW : T.W) (hX : IdxN (Low W) W ds X) (hXW : X.W)
    (hr : Vs W x2 r) (hri : ∀ v ∈ r, inV v) (hs : Vs W x3 s) (hsi : ∀ v ∈ s, inV v) :
    Calls Tryd.prog 3 #[.agg cs.toArray, .agg ds.toArray, x2, x3] W (fun e w' => e = .returned (.bool true) ∧ Below W.heap.size W w') := by
  obtain ⟨a1, e1, a3, e3, rfl⟩ := tab_form hT
  have hX0 := hX
  obtain ⟨x6, rfl, ⟨hx6, -⟩, -⟩ := hX0
  obtain ⟨a4, e4, rfl, -, -, pc⟩ := zs_cells hx6
  obtain ⟨b2, c2, rfl, hm2⟩ := hr.form
  obtain ⟨b3, c3, rfl, hm3⟩ := hs.form
  unfold maxLen at hm2 hm3
  have H0 := hid hT
  have H1 := hid hX
  have HR0 := hid hr
  have HS0 := hid hs
  have HTW := hid hTW
  have HXW := hid hXW
  have HRI := hid hri
  have HSI := hid hsi
  have HPC := hid pc
  clear hT hX hr hs hTW hXW hri hsi pc hx6
  go_enter Tryd.func3, Tryd.ntmps3
  go_upto_region 1 with fail
  have hb := (Below.refl W.heap.size W).alloc (Nat.le_refl _) (.cells #[.int .i64 T.id, .string ⟨T.name.toArray⟩, .slice a1 T.cols.length e1, .slice a3 T.key.length e3] 25)
  have hz := heap_alloc_new W (.cells #[.int .i64 T.id, .string ⟨T.name.toArray⟩, .slice a1 T.cols.length e1, .slice a3 T.key.length e3] 25)
  have hs : (W.alloc (.cells #[.int .i64 T.id, .string ⟨T.name.toArray⟩, .slice a1 T.cols.length e1, .slice a3 T.key.length e3] 25)).heap.size = W.heap.size + 1 := by simp
  generalize W.alloc (.cells #[.int .i64 T.id, .string ⟨T.name.toArray⟩, .slice a1 T.cols.length e1, .slice a3 T.key.length e3] 25) = w1 at *
  have hb2 := (Below.refl w1.heap.size w1).alloc (Nat.le_refl _) (.cells #[.int .i64 X.id, .int .i64 X.table, .string ⟨X.name.toArray⟩, .slice a4 X.cols.length e4, .bool X.uniq, .int .i64 X.state, .bool X.bad] 27)
  have hx2 := heap_alloc_new w1 (.cells #[.int .i64 X.id, .int .i64 X.table, .string ⟨X.name.toArray⟩, .slice a4 X.cols.length e4, .bool X.uniq, .int .i64 X.state, .bool X.bad] 27)
  generalize w1.alloc (.cells #[.int .i64 X.id, .int .i64 X.table, .string ⟨X.name.toArray⟩, .slice a4 X.cols.length e4, .bool X.uniq, .int .i64 X.state, .bool X.bad] 27) = w2 at *
  have hz2 := (hb2.block _ (lt_of_block hz)).trans hz
  rw [hs] at hx2
  have HB := hid (below_step hb hb2)
  have HKT : Hid (∀ V, Below w2.heap.size w2 V → V.cell? ⟨W.heap.size, 0, none⟩ = some (.int .i64 T.id) ∧ V.cell? ⟨W.heap.size, 1, none⟩ = some (.string ⟨T.name.toArray⟩) ∧ V.cell? ⟨W.heap.size, 2, none⟩ = some (.slice a1 T.cols.length e1) ∧ V.cell? ⟨W.heap.size, 3, none⟩ = some (.slice a3 T.key.length e3) ∧ V.cell? ⟨W.heap.size + 1, 0, none⟩ = some (.int .i64 X.id) ∧ V.cell? ⟨W.heap.size + 1, 1, none⟩ = some (.int .i64 X.table) ∧ V.cell? ⟨W.heap.size + 1, 2, none⟩ = some (.string ⟨X.name.toArray⟩) ∧ V.cell? ⟨W.heap.size + 1, 3, none⟩ = some (.slice a4 X.cols.length e4) ∧ V.cell? ⟨W.heap.size + 1, 4, none⟩ = some (.bool X.uniq) ∧ V.cell? ⟨W.heap.size + 1, 5, none⟩ = some (.int .i64 X.state) ∧ V.cell? ⟨W.heap.size + 1, 6, none⟩ = some (.bool X.bad)) := hid (fun V hV => by
    have h1 := (hV.block _ (lt_of_block hz2)).trans hz2
    have h2 := (hV.block _ (lt_of_block hx2)).trans hx2
    exact ⟨cell_in h1 0 _ rfl, cell_in h1 1 _ rfl, cell_in h1 2 _ rfl, cell_in h1 3 _ rfl, cell_in h2 0 _ rfl, cell_in h2 1 _ rfl, cell_in h2 2 _ rfl, cell_in h2 3 _ rfl, cell_in h2 4 _ rfl, cell_in h2 5 _ rfl, cell_in h2 6 _ rfl⟩)
  have HT2 := hid (H0.out.old HB.out)
  have HX2 := hid (H1.out.old HB.out)
  have HR2 := hid (HR0.out.old HB.out)
  have HS2 := hid (HS0.out.old HB.out)
  clear hb hb2 hz hz2 hx2 hs H0 H1 HR0 HS0
  have CA1 := hid (zawake_any w2)
  cases hm : mayF T X with
  | false =>
    go_wp2_with (first | (go_at_call 5; refine CA1.out.mono ?_; rintro en w3 ⟨rfl, hb3⟩; have HCw3 := hid hb3; clear CA1; obtain ⟨z0, z1, z2, z3, i0, i1, i2, i3, i4, i5, i6⟩ := HKT.out _ HCw3.out; have CM := hid (may_any (HT2.out.old HCw3.out) (HX2.out.old HCw3.out) HTW.out HXW.out); rw [hm] at CM) | (go_at_call 6; refine CM.out.mono ?_; rintro en w4 ⟨rfl, hb4⟩; have HCw4 := hid (below_step HCw3.out hb4); clear z0 z1 z2 z3 i0 i1 i2 i3 i4 i5 i6 hb4 CM; obtain ⟨z0, z1, z2, z3, i0, i1, i2, i3, i4, i5, i6⟩ := HKT.out _ HCw4.out; have CA2 := hid (zawake_any w4)) | (go_at_call 5; refine CA2.out.mono ?_; rintro en w8 ⟨rfl, hb8⟩; have HCw8 := hid (below_step HCw4.out hb8); clear hb8))
    go_ret
    exact ⟨rfl, below_step HB.out HCw8.out⟩
  | true =>
  have HTI := hid (mayF_ti HTW.out HXW.out hm)
  have HKD := hid (may_kinds hm)
  cases hfr : rowF T r with
  | false =>
    go_wp2_with (first | (go_at_call 5; refine CA1.out.mono ?_; rintro en w3 ⟨rfl, hb3⟩; have HCw3 := hid hb3; clear CA1; obtain ⟨z0, z1, z2, z3, i0, i1, i2, i3, i4, i5, i6⟩ := HKT.out _ HCw3.out; have CM := hid (may_any (HT2.out.old HCw3.out) (HX2.out.old HCw3.out) HTW.out HXW.out); rw [hm] at CM) | (go_at_call 6; refine CM.out.mono ?_; rintro en w4 ⟨rfl, hb4⟩; have HCw4 := hid (below_step HCw3.out hb4); clear z0 z1 z2 z3 i0 i1 i2 i3 i4 i5 i6 hb4 CM; obtain ⟨z0, z1, z2, z3, i0, i1, i2, i3, i4, i5, i6⟩ := HKT.out _ HCw4.out; have CR1 := hid (refRight_f (HT2.out.old HCw4.out) (HR2.out.old HCw4.out)); rw [hfr] at CR1) | (go_at_call 7; refine CR1.out.mono ?_; rintro en w5 ⟨rfl, hb5⟩; have HCw5 := hid (below_step HCw4.out hb5); clear z0 z1 z2 z3 i0 i1 i2 i3 i4 i5 i6 hb5 CR1; obtain ⟨z0, z1, z2, z3, i0, i1, i2, i3, i4, i5, i6⟩ := HKT.out _ HCw5.out; have CA2 := hid (zawake_any w5)) | (go_at_call 5; refine CA2.out.mono ?_; rintro en w8 ⟨rfl, hb8⟩; have HCw8 := hid (below_step HCw5.out hb8); clear hb8))
    go_ret
    exact ⟨rfl, below_step HB.out HCw8.out⟩
  | true =>
  have HRR : Hid (RwOk T r) := hid ⟨(rowF_iff _ _).1 hfr, HRI.out⟩
  cases hfs : rowF T s with
  | false =>
    go_wp2_with (first | (go_at_call 5; refine CA1.out.mono ?_; rintro en w3 ⟨rfl, hb3⟩; have HCw3 := hid hb3; clear CA1; obtain ⟨z0, z1, z2, z3, i0, i1, i2, i3, i4, i5, i6⟩ := HKT.out _ HCw3.out; have CM := hid (may_any (HT2.out.old HCw3.out) (HX2.out.old HCw3.out) HTW.out HXW.out); rw [hm] at CM) | (go_at_call 6; refine CM.out.mono ?_; rintro en w4 ⟨rfl, hb4⟩; have HCw4 := hid (below_step HCw3.out hb4); clear z0 z1 z2 z3 i0 i1 i2 i3 i4 i5 i6 hb4 CM; obtain ⟨z0, z1, z2, z3, i0, i1, i2, i3, i4, i5, i6⟩ := HKT.out _ HCw4.out; have CR1 := hid (refRight_f (HT2.out.old HCw4.out) (HR2.out.old HCw4.out)); rw [hfr] at CR1) | (go_at_call 7; refine CR1.out.mono ?_; rintro en w5 ⟨rfl, hb5⟩; have HCw5 := hid (below_step HCw4.out hb5); clear z0 z1 z2 z3 i0 i1 i2 i3 i4 i5 i6 hb5 CR1; obtain ⟨z0, z1, z2, z3, i0, i1, i2, i3, i4, i5, i6⟩ := HKT.out _ HCw5.out; have CR2 := hid (refRight_f (HT2.out.old HCw5.out) (HS2.out.old HCw5.out)); rw [hfs] at CR2) | (go_at_call 7; refine CR2.out.mono ?_; rintro en w6 ⟨rfl, hb6⟩; have HCw6 := hid (below_step HCw5.out hb6); clear z0 z1 z2 z3 i0 i1 i2 i3 i4 i5 i6 hb6 CR2; have CA2 := hid (zawake_any w6)) | (go_at_call 5; refine CA2.out.mono ?_; rintro en w8 ⟨rfl, hb8⟩; have HCw8 := hid (below_step HCw6.out hb8); clear hb8))
    go_ret
    exact ⟨rfl, below_step HB.out HCw8.out⟩
  | true =>
  have HSS : Hid (RwOk T s) := hid ⟨(rowF_iff _ _).1 hfs, HSI.out⟩
  go_upto_region 3 with (first | (go_at_call 5; refine CA1.out.mono ?_; rintro en w3 ⟨rfl, hb3⟩; have HCw3 := hid hb3; clear CA1; obtain ⟨z0, z1, z2, z3, i0, i1, i2, i3, i4, i5, i6⟩ := HKT.out _ HCw3.out; have CM := hid (may_any (HT2.out.old HCw3.out) (HX2.out.old HCw3.out) HTW.out HXW.out); rw [hm] at CM) | (go_at_call 6; refine CM.out.mono ?_; rintro en w4 ⟨rfl, hb4⟩; have HCw4 := hid (below_step HCw3.out hb4); clear z0 z1 z2 z3 i0 i1 i2 i3 i4 i5 i6 hb4 CM; obtain ⟨z0, z1, z2, z3, i0, i1, i2, i3, i4, i5, i6⟩ := HKT.out _ HCw4.out; have CR1 := hid (refRight_f (HT2.out.old HCw4.out) (HR2.out.old HCw4.out)); rw [hfr] at CR1) | (go_at_call 7; refine CR1.out.mono ?_; rintro en w5 ⟨rfl, hb5⟩; have HCw5 := hid (below_step HCw4.out hb5); clear z0 z1 z2 z3 i0 i1 i2 i3 i4 i5 i6 hb5 CR1; obtain ⟨z0, z1, z2, z3, i0, i1, i2, i3, i4, i5, i6⟩ := HKT.out _ HCw5.out; have CR2 := hid (refRight_f (HT2.out.old HCw5.out) (HS2.out.old HCw5.out)); rw [hfs] at CR2) | (go_at_call 7; refine CR2.out.mono ?_; rintro en w6 ⟨rfl, hb6⟩; have HCw6 := hid (below_step HCw5.out hb6); clear z0 z1 z2 z3 i0 i1 i2 i3 i4 i5 i6 hb6 CR2; skip))
  clear hm hfr hfs
  have HKA := hid (key_ok HRR.out.ok HTI.out.key HTI.out.non)
  have HKB := hid (key_ok HSS.out.ok HTI.out.key HTI.out.non)
  have HOA := hid (pick_okl HRR.out HTI.out.key)
  have HOB := hid (pick_okl HSS.out HTI.out.key)
  go_cut [9, 10] from 40 to 47 (fun p9 q9 wx => ∃ gp gq ek ec ev evc fk fc fv fvc, p9 = .pointer (some ⟨gp, 0, none⟩) ∧ q9 = .pointer (some ⟨gq, 0, none⟩) ∧ Hid (wx.heap[gp]? = some (.cells #[.slice ek (entKey T X r).length ec, .slice ev (entVal T X r).length evc, .int .i64 0] 34 (0, 0))) ∧ Hid (wx.heap[gq]? = some (.cells #[.slice fk (entKey T X s).length fc, .slice fv (entVal T X s).length fvc, .int .i64 0] 34 (0, 0))) ∧ Hid (Rd wx (.slice ek (entKey T X r).length ec) (entKey T X r)) ∧ Hid (Rd wx (.slice ev (entVal T X r).length evc) (entVal T X r)) ∧ Hid (Rd wx (.slice fk (entKey T X s).length fc) (entKey T X s)) ∧ Hid (Below w6.heap.size w6 wx))
  case first =>
    refine wp_region_noPanic ?_
    refine wp_region_held_drew (S := fun V => Hid (Below w6.heap.size w6 V)) (by kernel_rfl) (hid (Below.drew (Below.refl _ _))) (fun hHeld => ?_)
    generalize w6.drew = Wd at *
    refine tkH 0 (.agg #[.int .i64 T.id, .string ⟨T.name.toArray⟩, .slice a1 T.cols.length e1, .slice a3 T.key.length e3]) rfl (by kernel_rfl) (fun _ _ _ => False.elim) hHeld (Or.inl ⟨by rfl, fun W9 hW => by obtain ⟨q0, q1, q2, q3, q4, q5, q6, q7, q8, q9, q10⟩ := HKT.out _ (below_step HCw6.out hW.out); clear hHeld hW; simp only [jA, jB, jC]; go_simp⟩) ?_
    simp only [Act.put, jA, jB, jC, jD, jE, jF]
    refine tkH 1 (.agg #[.int .i64 X.id, .int .i64 X.table, .string ⟨X.name.toArray⟩, .slice a4 X.cols.length e4, .bool X.uniq, .int .i64 X.state, .bool X.bad]) rfl (by kernel_rfl) (fun _ _ _ => False.elim) hHeld (Or.inl ⟨by rfl, fun W9 hW => by obtain ⟨q0, q1, q2, q3, q4, q5, q6, q7, q8, q9, q10⟩ := HKT.out _ (below_step HCw6.out hW.out); clear hHeld hW; simp only [jA, jB, jC]; go_simp⟩) ?_
    simp only [Act.put, jA, jB, jC, jD, jE, jF]
    refine tkH 2 (.slice b2 r.length c2) rfl (by kernel_rfl) (fun _ _ _ => False.elim) hHeld (Or.inl ⟨by rfl, fun W9 hW => by clear hHeld hW; simp only [jA, jB, jC]; go_simp⟩) ?_
    simp only [Act.put, jA, jB, jC, jD, jE, jF]
    refine tkH 4 (.agg #[.int .i64 T.id, .string ⟨T.name.toArray⟩, .slice a1 T.cols.length e1, .slice a3 T.key.length e3]) rfl (by kernel_rfl) (fun _ _ _ => False.elim) hHeld (Or.inl ⟨by rfl, fun W9 hW => by obtain ⟨q0, q1, q2, q3, q4, q5, q6, q7, q8, q9, q10⟩ := HKT.out _ (below_step HCw6.out hW.out); clear hHeld hW; simp only [jA, jB, jC]; go_simp⟩) ?_
    simp only [Act.put, jA, jB, jC, jD, jE, jF]
    refine tkH 5 (.agg #[.int .i64 X.id, .int .i64 X.table, .string ⟨X.name.toArray⟩, .slice a4 X.cols.length e4, .bool X.uniq, .int .i64 X.state, .bool X.bad]) rfl (by kernel_rfl) (fun _ _ _ => False.elim) hHeld (Or.inl ⟨by rfl, fun W9 hW => by obtain ⟨q0, q1, q2, q3, q4, q5, q6, q7, q8, q9, q10⟩ := HKT.out _ (below_step HCw6.out hW.out); clear hHeld hW; simp only [jA, jB, jC]; go_simp⟩) ?_
    simp only [Act.put, jA, jB, jC, jD, jE, jF]
    refine tkH 6 (.slice b3 s.length c3) rfl (by kernel_rfl) (fun _ _ _ => False.elim) hHeld (Or.inl ⟨by rfl, fun W9 hW => by clear hHeld hW; simp only [jA, jB, jC]; go_simp⟩) ?_
    simp only [Act.put, jA, jB, jC, jD, jE, jF]
    have HWD := hid (show w6.heap.size ≤ Wd.heap.size from hHeld.out.size)
    refine wpAnyH_ready (rs := [3, 8, 9]) (by kernel_rfl) (by simp) (AllReadyH.cons rfl ?_ (AllReadyH.cons rfl ?_ (AllReadyH.cons rfl ?_ AllReadyH.nil)))
    · intro K hK
      go_simp
      have CQ := hid (entry_ok (HT2.out.old (below_step HCw6.out hHeld.out)) (HX2.out.old (below_step HCw6.out hHeld.out)) HTI.out (HR2.out.old (below_step HCw6.out hHeld.out)) HRR.out)
      go_wp2_with (first | (go_at_call 8; refine CQ.out.mono ?_; rintro en Wn1 ⟨vk9, vv9, rfl, hp9, hbE⟩; have HBE := hid (below_step hHeld.out hbE); have HSZ1 := hid hbE.size; obtain ⟨ek, ec, rfl, -⟩ := zown_rd hp9.1; obtain ⟨ev, evc, rfl, -⟩ := zown_rd hp9.2; have HKE11 := hid hp9.1; have HVE11 := hid hp9.2; have HUE11 : Hid ((∀ q, (Value.slice ek (entKey T X r).length ec).ownBlock = some q → q < Wn1.heap.size) ∧ (∀ q, (Value.slice ev (entVal T X r).length evc).ownBlock = some q → q < Wn1.heap.size)) := hid ⟨fun q hq => (hp9.1.lt q hq).2, fun q hq => (hp9.2.lt q hq).2⟩; clear hp9 hbE))
      clear CQ hHeld
      refine hK.out _ _ HBE (fun hHeld => ?_)
      clear hK K HBE
      try simp only [Act.put, jA, jB, jC, jD, jE, jF]
      refine wpAnyH_ready (rs := [7, 8, 9]) (by kernel_rfl) (by simp) (AllReadyH.cons rfl ?_ (AllReadyH.cons rfl ?_ (AllReadyH.cons rfl ?_ AllReadyH.nil)))
      · intro K hK
        go_simp
        have CQ := hid (entry_ok (HT2.out.old (below_step HCw6.out hHeld.out)) (HX2.out.old (below_step HCw6.out hHeld.out)) HTI.out (HS2.out.old (below_step HCw6.out hHeld.out)) HSS.out)
        go_wp2_with (first | (go_at_call 8; refine CQ.out.mono ?_; rintro en Wn2 ⟨vk9, vv9, rfl, hp9, hbE⟩; have HBE := hid (below_step hHeld.out hbE); have HSZ2 := hid hbE.size; obtain ⟨fk, fc, rfl, -⟩ := zown_rd hp9.1; obtain ⟨fv, fvc, rfl, -⟩ := zown_rd hp9.2; have HKE22 := hid hp9.1; have HVE22 := hid hp9.2; have HUE22 : Hid ((∀ q, (Value.slice fk (entKey T X s).length fc).ownBlock = some q → q < Wn2.heap.size) ∧ (∀ q, (Value.slice fv (entVal T X s).length fvc).ownBlock = some q → q < Wn2.heap.size)) := hid ⟨fun q hq => (hp9.1.lt q hq).2, fun q hq => (hp9.2.lt q hq).2⟩; have HKE12 := hid (own_old HKE11.out hbE); have HVE12 := hid (own_old HVE11.out hbE); clear hp9 hbE))
        clear CQ hHeld
        refine hK.out _ _ HBE (fun hHeld => ?_)
        clear hK K HBE
        try simp only [Act.put, jA, jB, jC, jD, jE, jF]
        refine wpAnyH_ready (rs := [8, 9]) (by kernel_rfl) (by simp) (AllReadyH.cons rfl ?_ (AllReadyH.cons rfl ?_ AllReadyH.nil))
        · intro K hK
          go_simp
          have hza := heap_alloc_new Wn2 (.cells #[.slice none 0 0, .slice none 0 0, .int .i64 0] 34)
          have hsa : (Wn2.alloc (.cells #[.slice none 0 0, .slice none 0 0, .int .i64 0] 34)).heap.size = Wn2.heap.size + 1 := by simp
          have hba := (Below.refl Wn2.heap.size Wn2).alloc (Nat.le_refl _) (.cells #[.slice none 0 0, .slice none 0 0, .int .i64 0] 34)
          refine hK.out _ _ (hid (hHeld.out.alloc hHeld.out.size (.cells #[.slice none 0 0, .slice none 0 0, .int .i64 0] 34))) (fun hHeld2 => ?_)
          clear hK K
          try simp only [Act.put, jA, jB, jC, jD, jE, jF]
          have HKE13 := hid (own_old HKE12.out hba)
          have HVE13 := hid (own_old HVE12.out hba)
          have HKE23 := hid (own_old HKE22.out hba)
          have HVE23 := hid (own_old HVE22.out hba)
          generalize Wn2.alloc (.cells #[.slice none 0 0, .slice none 0 0, .int .i64 0] 34) = Wn3 at *
          clear hHeld
          have hHeld := hHeld2
          have HP3 := hid hza
          have HSZ3 := hid hsa
          clear hHeld2 hza hsa hba
          have HLOP : Hid (w6.heap.size ≤ Wn2.heap.size) := hid (by have y0 := HSZ1.out; have y1 := HSZ2.out; have y2 := HSZ3.out; have y98 := HWD.out; omega)
          refine rdH 9 (by kernel_rfl) rfl fun K hK => ?_
          go_simp
          have hza := heap_alloc_new Wn3 (.cells #[.slice none 0 0, .slice none 0 0, .int .i64 0] 34)
          have hsa : (Wn3.alloc (.cells #[.slice none 0 0, .slice none 0 0, .int .i64 0] 34)).heap.size = Wn3.heap.size + 1 := by simp
          have hba := (Below.refl Wn3.heap.size Wn3).alloc (Nat.le_refl _) (.cells #[.slice none 0 0, .slice none 0 0, .int .i64 0] 34)
          refine hK.out _ _ (hid (hHeld.out.alloc hHeld.out.size (.cells #[.slice none 0 0, .slice none 0 0, .int .i64 0] 34))) (fun hHeld2 => ?_)
          clear hK K
          try simp only [Act.put, jA, jB, jC, jD, jE, jF]
          have HKE14 := hid (own_old HKE13.out hba)
          have HVE14 := hid (own_old HVE13.out hba)
          have HKE24 := hid (own_old HKE23.out hba)
          have HVE24 := hid (own_old HVE23.out hba)
          have HP4 := hid ((hba.block _ (lt_of_block HP3.out)).trans HP3.out)
          generalize Wn3.alloc (.cells #[.slice none 0 0, .slice none 0 0, .int .i64 0] 34) = Wn4 at *
          clear hHeld
          have hHeld := hHeld2
          have HQ4 := hid hza
          have HSZ4 := hid hsa
          clear hHeld2 hza hsa hba
          have HLOQ : Hid (w6.heap.size ≤ Wn3.heap.size) := hid (by have y0 := HSZ1.out; have y1 := HSZ2.out; have y2 := HSZ3.out; have y3 := HSZ4.out; have y98 := HWD.out; omega)
          refine rdH 10 (by kernel_rfl) rfl fun K hK => ?_
          rw [if_pos (by rfl)]
          refine Go.wp_store_row _ _ _ rfl (Wn2.heap.size) #[.slice ek (entKey T X r).length ec, .slice ev (entVal T X r).length evc, .int .i64 0] rfl rfl _ _ HP4.out (by kernel_rfl) rfl (by simp [Value.oneCell']) ?_
          have p1 := setRow_heap Wn4 (Wn2.heap.size) _ #[.slice ek (entKey T X r).length ec, .slice ev (entVal T X r).length evc, .int .i64 0] _ _ HP4.out
          have p2 := setRow_keep13 Wn4 (Wn2.heap.size) #[.slice ek (entKey T X r).length ec, .slice ev (entVal T X r).length evc, .int .i64 0]
          generalize Wn4.setRow (Wn2.heap.size) #[.slice ek (entKey T X r).length ec, .slice ev (entVal T X r).length evc, .int .i64 0] = Wn5 at *
          have HBW : Hid (Below w6.heap.size w6 Wn5) := hid (hHeld.out.trans (p2.below hHeld.out.size (fun q e => by have e9 : q = Wn2.heap.size := e; have y0 := HSZ1.out; have y1 := HSZ2.out; have y2 := HSZ3.out; have y3 := HSZ4.out; have y99 := HLOP.out; omega)))
          have HKE15 := hid (own_keep HKE14.out p2 (fun q hq e => by have e9 : q = Wn2.heap.size := e; have z1 := (HKE14.out.lt q hq).1; have z2 := HUE11.out.1 q hq; have y0 := HSZ1.out; have y1 := HSZ2.out; have y2 := HSZ3.out; have y3 := HSZ4.out; omega))
          have HVE15 := hid (own_keep HVE14.out p2 (fun q hq e => by have e9 : q = Wn2.heap.size := e; have z1 := (HVE14.out.lt q hq).1; have z2 := HUE11.out.2 q hq; have y0 := HSZ1.out; have y1 := HSZ2.out; have y2 := HSZ3.out; have y3 := HSZ4.out; omega))
          have HKE25 := hid (own_keep HKE24.out p2 (fun q hq e => by have e9 : q = Wn2.heap.size := e; have z1 := (HKE24.out.lt q hq).1; have z2 := HUE22.out.1 q hq; have y0 := HSZ1.out; have y1 := HSZ2.out; have y2 := HSZ3.out; have y3 := HSZ4.out; omega))
          have HVE25 := hid (own_keep HVE24.out p2 (fun q hq e => by have e9 : q = Wn2.heap.size := e; have z1 := (HVE24.out.lt q hq).1; have z2 := HUE22.out.2 q hq; have y0 := HSZ1.out; have y1 := HSZ2.out; have y2 := HSZ3.out; have y3 := HSZ4.out; omega))
          have HQ5 := hid ((p2.block _ (lt_of_block HQ4.out) (fun e => by have e9 : Wn3.heap.size = Wn2.heap.size := e; have y0 := HSZ1.out; have y1 := HSZ2.out; have y2 := HSZ3.out; have y3 := HSZ4.out; omega)).trans HQ4.out)
          have HP5 := hid p1
          have HSZ5 := hid p2.size
          clear p1 p2 hHeld
          refine hK.out _ _ HBW (fun hHeld => ?_)
          clear hK K HBW
          try simp only [Act.put, jA, jB, jC, jD, jE, jF]
          refine rdH 11 (by kernel_rfl) rfl fun K hK => ?_
          rw [if_pos (by rfl)]
          refine Go.wp_store_row _ _ _ rfl (Wn3.heap.size) #[.slice fk (entKey T X s).length fc, .slice fv (entVal T X s).length fvc, .int .i64 0] rfl rfl _ _ HQ5.out (by kernel_rfl) rfl (by simp [Value.oneCell']) ?_
          have p1 := setRow_heap Wn5 (Wn3.heap.size) _ #[.slice fk (entKey T X s).length fc, .slice fv (entVal T X s).length fvc, .int .i64 0] _ _ HQ5.out
          have p2 := setRow_keep13 Wn5 (Wn3.heap.size) #[.slice fk (entKey T X s).length fc, .slice fv (entVal T X s).length fvc, .int .i64 0]
          generalize Wn5.setRow (Wn3.heap.size) #[.slice fk (entKey T X s).length fc, .slice fv (entVal T X s).length fvc, .int .i64 0] = Wn6 at *
          have HBW : Hid (Below w6.heap.size w6 Wn6) := hid (hHeld.out.trans (p2.below hHeld.out.size (fun q e => by have e9 : q = Wn3.heap.size := e; have y0 := HSZ1.out; have y1 := HSZ2.out; have y2 := HSZ3.out; have y3 := HSZ4.out; have y4 := HSZ5.out; have y99 := HLOQ.out; omega)))
          have HKE16 := hid (own_keep HKE15.out p2 (fun q hq e => by have e9 : q = Wn3.heap.size := e; have z1 := (HKE15.out.lt q hq).1; have z2 := HUE11.out.1 q hq; have y0 := HSZ1.out; have y1 := HSZ2.out; have y2 := HSZ3.out; have y3 := HSZ4.out; have y4 := HSZ5.out; omega))
          have HVE16 := hid (own_keep HVE15.out p2 (fun q hq e => by have e9 : q = Wn3.heap.size := e; have z1 := (HVE15.out.lt q hq).1; have z2 := HUE11.out.2 q hq; have y0 := HSZ1.out; have y1 := HSZ2.out; have y2 := HSZ3.out; have y3 := HSZ4.out; have y4 := HSZ5.out; omega))
          have HKE26 := hid (own_keep HKE25.out p2 (fun q hq e => by have e9 : q = Wn3.heap.size := e; have z1 := (HKE25.out.lt q hq).1; have z2 := HUE22.out.1 q hq; have y0 := HSZ1.out; have y1 := HSZ2.out; have y2 := HSZ3.out; have y3 := HSZ4.out; have y4 := HSZ5.out; omega))
          have HVE26 := hid (own_keep HVE25.out p2 (fun q hq e => by have e9 : q = Wn3.heap.size := e; have z1 := (HVE25.out.lt q hq).1; have z2 := HUE22.out.2 q hq; have y0 := HSZ1.out; have y1 := HSZ2.out; have y2 := HSZ3.out; have y3 := HSZ4.out; have y4 := HSZ5.out; omega))
          have HP6 := hid ((p2.block _ (lt_of_block HP5.out) (fun e => by have e9 : Wn2.heap.size = Wn3.heap.size := e; have y0 := HSZ1.out; have y1 := HSZ2.out; have y2 := HSZ3.out; have y3 := HSZ4.out; have y4 := HSZ5.out; omega)).trans HP5.out)
          have HQ6 := hid p1
          have HSZ6 := hid p2.size
          clear p1 p2 hHeld
          refine hK.out _ _ HBW (fun hHeld => ?_)
          clear hK K HBW
          try simp only [Act.put, jA, jB, jC, jD, jE, jF]
          have HBF := hHeld
          refine wpAnyH_done (by kernel_rfl) (NoPanic.normal ?_) _
          clear hHeld
          go_wp2_with fail
          go_meet
          exact ⟨_, _, ek, ec, ev, evc, fk, fc, fv, fvc, rfl, rfl, HP6, HQ6, hid (Rd.own HKE16.out), hid (Rd.own HVE16.out), hid (Rd.own HKE26.out), HBF⟩
        · intro K hK
          go_simp
          have hza := heap_alloc_new Wn2 (.cells #[.slice none 0 0, .slice none 0 0, .int .i64 0] 34)
          have hsa : (Wn2.alloc (.cells #[.slice none 0 0, .slice none 0 0, .int .i64 0] 34)).heap.size = Wn2.heap.size + 1 := by simp
          have hba := (Below.refl Wn2.heap.size Wn2).alloc (Nat.le_refl _) (.cells #[.slice none 0 0, .slice none 0 0, .int .i64 0] 34)
          refine hK.out _ _ (hid (hHeld.out.alloc hHeld.out.size (.cells #[.slice none 0 0, .slice none 0 0, .int .i64 0] 34))) (fun hHeld2 => ?_)
          clear hK K
          try simp only [Act.put, jA, jB, jC, jD, jE, jF]
          have HKE17 := hid (own_old HKE12.out hba)
          have HVE17 := hid (own_old HVE12.out hba)
          have HKE27 := hid (own_old HKE22.out hba)
          have HVE27 := hid (own_old HVE22.out hba)
          generalize Wn2.alloc (.cells #[.slice none 0 0, .slice none 0 0, .int .i64 0] 34) = Wn7 at *
          clear hHeld
          have hHeld := hHeld2
          have HQ7 := hid hza
          have HSZ7 := hid hsa
          clear hHeld2 hza hsa hba
          have HLOQ : Hid (w6.heap.size ≤ Wn2.heap.size) := hid (by have y0 := HSZ1.out; have y1 := HSZ2.out; have y2 := HSZ7.out; have y98 := HWD.out; omega)
          refine rdH 8 (by kernel_rfl) rfl fun K hK => ?_
          go_simp
          have hza := heap_alloc_new Wn7 (.cells #[.slice none 0 0, .slice none 0 0, .int .i64 0] 34)
          have hsa : (Wn7.alloc (.cells #[.slice none 0 0, .slice none 0 0, .int .i64 0] 34)).heap.size = Wn7.heap.size + 1 := by simp
          have hba := (Below.refl Wn7.heap.size Wn7).alloc (Nat.le_refl _) (.cells #[.slice none 0 0, .slice none 0 0, .int .i64 0] 34)
          refine hK.out _ _ (hid (hHeld.out.alloc hHeld.out.size (.cells #[.slice none 0 0, .slice none 0 0, .int .i64 0] 34))) (fun hHeld2 => ?_)
          clear hK K
          try simp only [Act.put, jA, jB, jC, jD, jE, jF]
          have HKE18 := hid (own_old HKE17.out hba)
          have HVE18 := hid (own_old HVE17.out hba)
          have HKE28 := hid (own_old HKE27.out hba)
          have HVE28 := hid (own_old HVE27.out hba)
          have HQ8 := hid ((hba.block _ (lt_of_block HQ7.out)).trans HQ7.out)
          generalize Wn7.alloc (.cells #[.slice none 0 0, .slice none 0 0, .int .i64 0] 34) = Wn8 at *
          clear hHeld
          have hHeld := hHeld2
          have HP8 := hid hza
          have HSZ8 := hid hsa
          clear hHeld2 hza hsa hba
          have HLOP : Hid (w6.heap.size ≤ Wn7.heap.size) := hid (by have y0 := HSZ1.out; have y1 := HSZ2.out; have y2 := HSZ7.out; have y3 := HSZ8.out; have y98 := HWD.out; omega)
          refine rdH 10 (by kernel_rfl) rfl fun K hK => ?_
          rw [if_pos (by rfl)]
          refine Go.wp_store_row _ _ _ rfl (Wn7.heap.size) #[.slice ek (entKey T X r).length ec, .slice ev (entVal T X r).length evc, .int .i64 0] rfl rfl _ _ HP8.out (by kernel_rfl) rfl (by simp [Value.oneCell']) ?_
          have p1 := setRow_heap Wn8 (Wn7.heap.size) _ #[.slice ek (entKey T X r).length ec, .slice ev (entVal T X r).length evc, .int .i64 0] _ _ HP8.out
          have p2 := setRow_keep13 Wn8 (Wn7.heap.size) #[.slice ek (entKey T X r).length ec, .slice ev (entVal T X r).length evc, .int .i64 0]
          generalize Wn8.setRow (Wn7.heap.size) #[.slice ek (entKey T X r).length ec, .slice ev (entVal T X r).length evc, .int .i64 0] = Wn9 at *
          have HBW : Hid (Below w6.heap.size w6 Wn9) := hid (hHeld.out.trans (p2.below hHeld.out.size (fun q e => by have e9 : q = Wn7.heap.size := e; have y0 := HSZ1.out; have y1 := HSZ2.out; have y2 := HSZ7.out; have y3 := HSZ8.out; have y99 := HLOP.out; omega)))
          have HKE19 := hid (own_keep HKE18.out p2 (fun q hq e => by have e9 : q = Wn7.heap.size := e; have z1 := (HKE18.out.lt q hq).1; have z2 := HUE11.out.1 q hq; have y0 := HSZ1.out; have y1 := HSZ2.out; have y2 := HSZ7.out; have y3 := HSZ8.out; omega))
          have HVE19 := hid (own_keep HVE18.out p2 (fun q hq e => by have e9 : q = Wn7.heap.size := e; have z1 := (HVE18.out.lt q hq).1; have z2 := HUE11.out.2 q hq; have y0 := HSZ1.out; have y1 := HSZ2.out; have y2 := HSZ7.out; have y3 := HSZ8.out; omega))
          have HKE29 := hid (own_keep HKE28.out p2 (fun q hq e => by have e9 : q = Wn7.heap.size := e; have z1 := (HKE28.out.lt q hq).1; have z2 := HUE22.out.1 q hq; have y0 := HSZ1.out; have y1 := HSZ2.out; have y2 := HSZ7.out; have y3 := HSZ8.out; omega))
          have HVE29 := hid (own_keep HVE28.out p2 (fun q hq e => by have e9 : q = Wn7.heap.size := e; have z1 := (HVE28.out.lt q hq).1; have z2 := HUE22.out.2 q hq; have y0 := HSZ1.out; have y1 := HSZ2.out; have y2 := HSZ7.out; have y3 := HSZ8.out; omega))
          have HQ9 := hid ((p2.block _ (lt_of_block HQ8.out) (fun e => by have e9 : Wn2.heap.size = Wn7.heap.size := e; have y0 := HSZ1.out; have y1 := HSZ2.out; have y2 := HSZ7.out; have y3 := HSZ8.out; omega)).trans HQ8.out)
          have HP9 := hid p1
          have HSZ9 := hid p2.size
          clear p1 p2 hHeld
          refine hK.out _ _ HBW (fun hHeld => ?_)
          clear hK K HBW
          try simp only [Act.put, jA, jB, jC, jD, jE, jF]
          refine rdH 11 (by kernel_rfl) rfl fun K hK => ?_
          rw [if_pos (by rfl)]
          refine Go.wp_store_row _ _ _ rfl (Wn2.heap.size) #[.slice fk (entKey T X s).length fc, .slice fv (entVal T X s).length fvc, .int .i64 0] rfl rfl _ _ HQ9.out (by kernel_rfl) rfl (by simp [Value.oneCell']) ?_
          have p1 := setRow_heap Wn9 (Wn2.heap.size) _ #[.slice fk (entKey T X s).length fc, .slice fv (entVal T X s).length fvc, .int .i64 0] _ _ HQ9.out
          have p2 := setRow_keep13 Wn9 (Wn2.heap.size) #[.slice fk (entKey T X s).length fc, .slice fv (entVal T X s).length fvc, .int .i64 0]
          generalize Wn9.setRow (Wn2.heap.size) #[.slice fk (entKey T X s).length fc, .slice fv (entVal T X s).length fvc, .int .i64 0] = Wn10 at *
          have HBW : Hid (Below w6.heap.size w6 Wn10) := hid (hHeld.out.trans (p2.below hHeld.out.size (fun q e => by have e9 : q = Wn2.heap.size := e; have y0 := HSZ1.out; have y1 := HSZ2.out; have y2 := HSZ7.out; have y3 := HSZ8.out; have y4 := HSZ9.out; have y99 := HLOQ.out; omega)))
          have HKE110 := hid (own_keep HKE19.out p2 (fun q hq e => by have e9 : q = Wn2.heap.size := e; have z1 := (HKE19.out.lt q hq).1; have z2 := HUE11.out.1 q hq; have y0 := HSZ1.out; have y1 := HSZ2.out; have y2 := HSZ7.out; have y3 := HSZ8.out; have y4 := HSZ9.out; omega))
          have HVE110 := hid (own_keep HVE19.out p2 (fun q hq e => by have e9 : q = Wn2.heap.size := e; have z1 := (HVE19.out.lt q hq).1; have z2 := HUE11.out.2 q hq; have y0 := HSZ1.out; have y1 := HSZ2.out; have y2 := HSZ7.out; have y3 := HSZ8.out; have y4 := HSZ9.out; omega))
          have HKE210 := hid (own_keep HKE29.out p2 (fun q hq e => by have e9 : q = Wn2.heap.size := e; have z1 := (HKE29.out.lt q hq).1; have z2 := HUE22.out.1 q hq; have y0 := HSZ1.out; have y1 := HSZ2.out; have y2 := HSZ7.out; have y3 := HSZ8.out; have y4 := HSZ9.out; omega))
          have HVE210 := hid (own_keep HVE29.out p2 (fun q hq e => by have e9 : q = Wn2.heap.size := e; have z1 := (HVE29.out.lt q hq).1; have z2 := HUE22.out.2 q hq; have y0 := HSZ1.out; have y1 := HSZ2.out; have y2 := HSZ7.out; have y3 := HSZ8.out; have y4 := HSZ9.out; omega))
          have HP10 := hid ((p2.block _ (lt_of_block HP9.out) (fun e => by have e9 : Wn7.heap.size = Wn2.heap.size := e; have y0 := HSZ1.out; have y1 := HSZ2.out; have y2 := HSZ7.out; have y3 := HSZ8.out; have y4 := HSZ9.out; omega)).trans HP9.out)
          have HQ10 := hid p1
          have HSZ10 := hid p2.size
          clear p1 p2 hHeld
          refine hK.out _ _ HBW (fun hHeld => ?_)
          clear hK K HBW
          try simp only [Act.put, jA, jB, jC, jD, jE, jF]
          have HBF := hHeld
          refine wpAnyH_done (by kernel_rfl) (NoPanic.normal ?_) _
          clear hHeld
          go_wp2_with fail
          go_meet
          exact ⟨_, _, ek, ec, ev, evc, fk, fc, fv, fvc, rfl, rfl, HP10, HQ10, hid (Rd.own HKE110.out), hid (Rd.own HVE110.out), hid (Rd.own HKE210.out), HBF⟩
      · intro K hK
        go_simp
        have hza := heap_alloc_new Wn1 (.cells #[.slice none 0 0, .slice none 0 0, .int .i64 0] 34)
        have hsa : (Wn1.alloc (.cells #[.slice none 0 0, .slice none 0 0, .int .i64 0] 34)).heap.size = Wn1.heap.size + 1 := by simp
        have hba := (Below.refl Wn1.heap.size Wn1).alloc (Nat.le_refl _) (.cells #[.slice none 0 0, .slice none 0 0, .int .i64 0] 34)
        refine hK.out _ _ (hid (hHeld.out.alloc hHeld.out.size (.cells #[.slice none 0 0, .slice none 0 0, .int .i64 0] 34))) (fun hHeld2 => ?_)
        clear hK K
        try simp only [Act.put, jA, jB, jC, jD, jE, jF]
        have HKE111 := hid (own_old HKE11.out hba)
        have HVE111 := hid (own_old HVE11.out hba)
        generalize Wn1.alloc (.cells #[.slice none 0 0, .slice none 0 0, .int .i64 0] 34) = Wn11 at *
        clear hHeld
        have hHeld := hHeld2
        have HP11 := hid hza
        have HSZ11 := hid hsa
        clear hHeld2 hza hsa hba
        have HLOP : Hid (w6.heap.size ≤ Wn1.heap.size) := hid (by have y0 := HSZ1.out; have y1 := HSZ11.out; have y98 := HWD.out; omega)
        refine wpAnyH_ready (rs := [7, 9]) (by kernel_rfl) (by simp) (AllReadyH.cons rfl ?_ (AllReadyH.cons rfl ?_ AllReadyH.nil))
        · intro K hK
          go_simp
          have CQ := hid (entry_ok (HT2.out.old (below_step HCw6.out hHeld.out)) (HX2.out.old (below_step HCw6.out hHeld.out)) HTI.out (HS2.out.old (below_step HCw6.out hHeld.out)) HSS.out)
          go_wp2_with (first | (go_at_call 8; refine CQ.out.mono ?_; rintro en Wn12 ⟨vk9, vv9, rfl, hp9, hbE⟩; have HBE := hid (below_step hHeld.out hbE); have HSZ12 := hid hbE.size; obtain ⟨fk, fc, rfl, -⟩ := zown_rd hp9.1; obtain ⟨fv, fvc, rfl, -⟩ := zown_rd hp9.2; have HKE212 := hid hp9.1; have HVE212 := hid hp9.2; have HUE212 : Hid ((∀ q, (Value.slice fk (entKey T X s).length fc).ownBlock = some q → q < Wn12.heap.size) ∧ (∀ q, (Value.slice fv (entVal T X s).length fvc).ownBlock = some q → q < Wn12.heap.size)) := hid ⟨fun q hq => (hp9.1.lt q hq).2, fun q hq => (hp9.2.lt q hq).2⟩; have HKE112 := hid (own_old HKE111.out hbE); have HVE112 := hid (own_old HVE111.out hbE); have HP12 := hid ((hbE.block _ (lt_of_block HP11.out)).trans HP11.out); clear hp9 hbE))
          clear CQ hHeld
          refine hK.out _ _ HBE (fun hHeld => ?_)
          clear hK K HBE
          try simp only [Act.put, jA, jB, jC, jD, jE, jF]
          refine rdH 9 (by kernel_rfl) rfl fun K hK => ?_
          go_simp
          have hza := heap_alloc_new Wn12 (.cells #[.slice none 0 0, .slice none 0 0, .int .i64 0] 34)
          have hsa : (Wn12.alloc (.cells #[.slice none 0 0, .slice none 0 0, .int .i64 0] 34)).heap.size = Wn12.heap.size + 1 := by simp
          have hba := (Below.refl Wn12.heap.size Wn12).alloc (Nat.le_refl _) (.cells #[.slice none 0 0, .slice none 0 0, .int .i64 0] 34)
          refine hK.out _ _ (hid (hHeld.out.alloc hHeld.out.size (.cells #[.slice none 0 0, .slice none 0 0, .int .i64 0] 34))) (fun hHeld2 => ?_)
          clear hK K
          try simp only [Act.put, jA, jB, jC, jD, jE, jF]
          have HKE113 := hid (own_old HKE112.out hba)
          have HVE113 := hid (own_old HVE112.out hba)
          have HKE213 := hid (own_old HKE212.out hba)
          have HVE213 := hid (own_old HVE212.out hba)
          have HP13 := hid ((hba.block _ (lt_of_block HP12.out)).trans HP12.out)
          generalize Wn12.alloc (.cells #[.slice none 0 0, .slice none 0 0, .int .i64 0] 34) = Wn13 at *
          clear hHeld
          have hHeld := hHeld2
          have HQ13 := hid hza
          have HSZ13 := hid hsa
          clear hHeld2 hza hsa hba
          have HLOQ : Hid (w6.heap.size ≤ Wn12.heap.size) := hid (by have y0 := HSZ1.out; have y1 := HSZ11.out; have y2 := HSZ12.out; have y3 := HSZ13.out; have y98 := HWD.out; omega)
          refine rdH 10 (by kernel_rfl) rfl fun K hK => ?_
          rw [if_pos (by rfl)]
          refine Go.wp_store_row _ _ _ rfl (Wn1.heap.size) #[.slice ek (entKey T X r).length ec, .slice ev (entVal T X r).length evc, .int .i64 0] rfl rfl _ _ HP13.out (by kernel_rfl) rfl (by simp [Value.oneCell']) ?_
          have p1 := setRow_heap Wn13 (Wn1.heap.size) _ #[.slice ek (entKey T X r).length ec, .slice ev (entVal T X r).length evc, .int .i64 0] _ _ HP13.out
          have p2 := setRow_keep13 Wn13 (Wn1.heap.size) #[.slice ek (entKey T X r).length ec, .slice ev (entVal T X r).length evc, .int .i64 0]
          generalize Wn13.setRow (Wn1.heap.size) #[.slice ek (entKey T X r).length ec, .slice ev (entVal T X r).length evc, .int .i64 0] = Wn14 at *
          have HBW : Hid (Below w6.heap.size w6 Wn14) := hid (hHeld.out.trans (p2.below hHeld.out.size (fun q e => by have e9 : q = Wn1.heap.size := e; have y0 := HSZ1.out; have y1 := HSZ11.out; have y2 := HSZ12.out; have y3 := HSZ13.out; have y99 := HLOP.out; omega)))
          have HKE114 := hid (own_keep HKE113.out p2 (fun q hq e => by have e9 : q = Wn1.heap.size := e; have z1 := (HKE113.out.lt q hq).1; have z2 := HUE11.out.1 q hq; have y0 := HSZ1.out; have y1 := HSZ11.out; have y2 := HSZ12.out; have y3 := HSZ13.out; omega))
          have HVE114 := hid (own_keep HVE113.out p2 (fun q hq e => by have e9 : q = Wn1.heap.size := e; have z1 := (HVE113.out.lt q hq).1; have z2 := HUE11.out.2 q hq; have y0 := HSZ1.out; have y1 := HSZ11.out; have y2 := HSZ12.out; have y3 := HSZ13.out; omega))
          have HKE214 := hid (own_keep HKE213.out p2 (fun q hq e => by have e9 : q = Wn1.heap.size := e; have z1 := (HKE213.out.lt q hq).1; have z2 := HUE212.out.1 q hq; have y0 := HSZ1.out; have y1 := HSZ11.out; have y2 := HSZ12.out; have y3 := HSZ13.out; omega))
          have HVE214 := hid (own_keep HVE213.out p2 (fun q hq e => by have e9 : q = Wn1.heap.size := e; have z1 := (HVE213.out.lt q hq).1; have z2 := HUE212.out.2 q hq; have y0 := HSZ1.out; have y1 := HSZ11.out; have y2 := HSZ12.out; have y3 := HSZ13.out; omega))
          have HQ14 := hid ((p2.block _ (lt_of_block HQ13.out) (fun e => by have e9 : Wn12.heap.size = Wn1.heap.size := e; have y0 := HSZ1.out; have y1 := HSZ11.out; have y2 := HSZ12.out; have y3 := HSZ13.out; omega)).trans HQ13.out)
          have HP14 := hid p1
          have HSZ14 := hid p2.size
          clear p1 p2 hHeld
          refine hK.out _ _ HBW (fun hHeld => ?_)
          clear hK K HBW
          try simp only [Act.put, jA, jB, jC, jD, jE, jF]
          refine rdH 11 (by kernel_rfl) rfl fun K hK => ?_
          rw [if_pos (by rfl)]
          refine Go.wp_store_row _ _ _ rfl (Wn12.heap.size) #[.slice fk (entKey T X s).length fc, .slice fv (entVal T X s).length fvc, .int .i64 0] rfl rfl _ _ HQ14.out (by kernel_rfl) rfl (by simp [Value.oneCell']) ?_
          have p1 := setRow_heap Wn14 (Wn12.heap.size) _ #[.slice fk (entKey T X s).length fc, .slice fv (entVal T X s).length fvc, .int .i64 0] _ _ HQ14.out
          have p2 := setRow_keep13 Wn14 (Wn12.heap.size) #[.slice fk (entKey T X s).length fc, .slice fv (entVal T X s).length fvc, .int .i64 0]
          generalize Wn14.setRow (Wn12.heap.size) #[.slice fk (entKey T X s).length fc, .slice fv (entVal T X s).length fvc, .int .i64 0] = Wn15 at *
          have HBW : Hid (Below w6.heap.size w6 Wn15) := hid (hHeld.out.trans (p2.below hHeld.out.size (fun q e => by have e9 : q = Wn12.heap.size := e; have y0 := HSZ1.out; have y1 := HSZ11.out; have y2 := HSZ12.out; have y3 := HSZ13.out; have y4 := HSZ14.out; have y99 := HLOQ.out; omega)))
          have HKE115 := hid (own_keep HKE114.out p2 (fun q hq e => by have e9 : q = Wn12.heap.size := e; have z1 := (HKE114.out.lt q hq).1; have z2 := HUE11.out.1 q hq; have y0 := HSZ1.out; have y1 := HSZ11.out; have y2 := HSZ12.out; have y3 := HSZ13.out; have y4 := HSZ14.out; omega))
          have HVE115 := hid (own_keep HVE114.out p2 (fun q hq e => by have e9 : q = Wn12.heap.size := e; have z1 := (HVE114.out.lt q hq).1; have z2 := HUE11.out.2 q hq; have y0 := HSZ1.out; have y1 := HSZ11.out; have y2 := HSZ12.out; have y3 := HSZ13.out; have y4 := HSZ14.out; omega))
          have HKE215 := hid (own_keep HKE214.out p2 (fun q hq e => by have e9 : q = Wn12.heap.size := e; have z1 := (HKE214.out.lt q hq).1; have z2 := HUE212.out.1 q hq; have y0 := HSZ1.out; have y1 := HSZ11.out; have y2 := HSZ12.out; have y3 := HSZ13.out; have y4 := HSZ14.out; omega))
          have HVE215 := hid (own_keep HVE214.out p2 (fun q hq e => by have e9 : q = Wn12.heap.size := e; have z1 := (HVE214.out.lt q hq).1; have z2 := HUE212.out.2 q hq; have y0 := HSZ1.out; have y1 := HSZ11.out; have y2 := HSZ12.out; have y3 := HSZ13.out; have y4 := HSZ14.out; omega))
          have HP15 := hid ((p2.block _ (lt_of_block HP14.out) (fun e => by have e9 : Wn1.heap.size = Wn12.heap.size := e; have y0 := HSZ1.out; have y1 := HSZ11.out; have y2 := HSZ12.out; have y3 := HSZ13.out; have y4 := HSZ14.out; omega)).trans HP14.out)
          have HQ15 := hid p1
          have HSZ15 := hid p2.size
          clear p1 p2 hHeld
          refine hK.out _ _ HBW (fun hHeld => ?_)
          clear hK K HBW
          try simp only [Act.put, jA, jB, jC, jD, jE, jF]
          have HBF := hHeld
          refine wpAnyH_done (by kernel_rfl) (NoPanic.normal ?_) _
          clear hHeld
          go_wp2_with fail
          go_meet
          exact ⟨_, _, ek, ec, ev, evc, fk, fc, fv, fvc, rfl, rfl, HP15, HQ15, hid (Rd.own HKE115.out), hid (Rd.own HVE115.out), hid (Rd.own HKE215.out), HBF⟩
        · intro K hK
          go_simp
          have hza := heap_alloc_new Wn11 (.cells #[.slice none 0 0, .slice none 0 0, .int .i64 0] 34)
          have hsa : (Wn11.alloc (.cells #[.slice none 0 0, .slice none 0 0, .int .i64 0] 34)).heap.size = Wn11.heap.size + 1 := by simp
          have hba := (Below.refl Wn11.heap.size Wn11).alloc (Nat.le_refl _) (.cells #[.slice none 0 0, .slice none 0 0, .int .i64 0] 34)
          refine hK.out _ _ (hid (hHeld.out.alloc hHeld.out.size (.cells #[.slice none 0 0, .slice none 0 0, .int .i64 0] 34))) (fun hHeld2 => ?_)
          clear hK K
          try simp only [Act.put, jA, jB, jC, jD, jE, jF]
          have HKE116 := hid (own_old HKE111.out hba)
          have HVE116 := hid (own_old HVE111.out hba)
          have HP16 := hid ((hba.block _ (lt_of_block HP11.out)).trans HP11.out)
          generalize Wn11.alloc (.cells #[.slice none 0 0, .slice none 0 0, .int .i64 0] 34) = Wn16 at *
          clear hHeld
          have hHeld := hHeld2
          have HQ16 := hid hza
          have HSZ16 := hid hsa
          clear hHeld2 hza hsa hba
          have HLOQ : Hid (w6.heap.size ≤ Wn11.heap.size) := hid (by have y0 := HSZ1.out; have y1 := HSZ11.out; have y2 := HSZ16.out; have y98 := HWD.out; omega)
          refine rdH 7 (by kernel_rfl) rfl fun K hK => ?_
          go_simp
          have CQ := hid (entry_ok (HT2.out.old (below_step HCw6.out hHeld.out)) (HX2.out.old (below_step HCw6.out hHeld.out)) HTI.out (HS2.out.old (below_step HCw6.out hHeld.out)) HSS.out)
          go_wp2_with (first | (go_at_call 8; refine CQ.out.mono ?_; rintro en Wn17 ⟨vk9, vv9, rfl, hp9, hbE⟩; have HBE := hid (below_step hHeld.out hbE); have HSZ17 := hid hbE.size; obtain ⟨fk, fc, rfl, -⟩ := zown_rd hp9.1; obtain ⟨fv, fvc, rfl, -⟩ := zown_rd hp9.2; have HKE217 := hid hp9.1; have HVE217 := hid hp9.2; have HUE217 : Hid ((∀ q, (Value.slice fk (entKey T X s).length fc).ownBlock = some q → q < Wn17.heap.size) ∧ (∀ q, (Value.slice fv (entVal T X s).length fvc).ownBlock = some q → q < Wn17.heap.size)) := hid ⟨fun q hq => (hp9.1.lt q hq).2, fun q hq => (hp9.2.lt q hq).2⟩; have HKE117 := hid (own_old HKE116.out hbE); have HVE117 := hid (own_old HVE116.out hbE); have HP17 := hid ((hbE.block _ (lt_of_block HP16.out)).trans HP16.out); have HQ17 := hid ((hbE.block _ (lt_of_block HQ16.out)).trans HQ16.out); clear hp9 hbE))
          clear CQ hHeld
          refine hK.out _ _ HBE (fun hHeld => ?_)
          clear hK K HBE
          try simp only [Act.put, jA, jB, jC, jD, jE, jF]
          refine rdH 10 (by kernel_rfl) rfl fun K hK => ?_
          rw [if_pos (by rfl)]
          refine Go.wp_store_row _ _ _ rfl (Wn1.heap.size) #[.slice ek (entKey T X r).length ec, .slice ev (entVal T X r).length evc, .int .i64 0] rfl rfl _ _ HP17.out (by kernel_rfl) rfl (by simp [Value.oneCell']) ?_
          have p1 := setRow_heap Wn17 (Wn1.heap.size) _ #[.slice ek (entKey T X r).length ec, .slice ev (entVal T X r).length evc, .int .i64 0] _ _ HP17.out
          have p2 := setRow_keep13 Wn17 (Wn1.heap.size) #[.slice ek (entKey T X r).length ec, .slice ev (entVal T X r).length evc, .int .i64 0]
          generalize Wn17.setRow (Wn1.heap.size) #[.slice ek (entKey T X r).length ec, .slice ev (entVal T X r).length evc, .int .i64 0] = Wn18 at *
          have HBW : Hid (Below w6.heap.size w6 Wn18) := hid (hHeld.out.trans (p2.below hHeld.out.size (fun q e => by have e9 : q = Wn1.heap.size := e; have y0 := HSZ1.out; have y1 := HSZ11.out; have y2 := HSZ16.out; have y3 := HSZ17.out; have y99 := HLOP.out; omega)))
          have HKE118 := hid (own_keep HKE117.out p2 (fun q hq e => by have e9 : q = Wn1.heap.size := e; have z1 := (HKE117.out.lt q hq).1; have z2 := HUE11.out.1 q hq; have y0 := HSZ1.out; have y1 := HSZ11.out; have y2 := HSZ16.out; have y3 := HSZ17.out; omega))
          have HVE118 := hid (own_keep HVE117.out p2 (fun q hq e => by have e9 : q = Wn1.heap.size := e; have z1 := (HVE117.out.lt q hq).1; have z2 := HUE11.out.2 q hq; have y0 := HSZ1.out; have y1 := HSZ11.out; have y2 := HSZ16.out; have y3 := HSZ17.out; omega))
          have HKE218 := hid (own_keep HKE217.out p2 (fun q hq e => by have e9 : q = Wn1.heap.size := e; have z1 := (HKE217.out.lt q hq).1; have z2 := HUE217.out.1 q hq; have y0 := HSZ1.out; have y1 := HSZ11.out; have y2 := HSZ16.out; have y3 := HSZ17.out; omega))
          have HVE218 := hid (own_keep HVE217.out p2 (fun q hq e => by have e9 : q = Wn1.heap.size := e; have z1 := (HVE217.out.lt q hq).1; have z2 := HUE217.out.2 q hq; have y0 := HSZ1.out; have y1 := HSZ11.out; have y2 := HSZ16.out; have y3 := HSZ17.out; omega))
          have HQ18 := hid ((p2.block _ (lt_of_block HQ17.out) (fun e => by have e9 : Wn11.heap.size = Wn1.heap.size := e; have y0 := HSZ1.out; have y1 := HSZ11.out; have y2 := HSZ16.out; have y3 := HSZ17.out; omega)).trans HQ17.out)
          have HP18 := hid p1
          have HSZ18 := hid p2.size
          clear p1 p2 hHeld
          refine hK.out _ _ HBW (fun hHeld => ?_)
          clear hK K HBW
          try simp only [Act.put, jA, jB, jC, jD, jE, jF]
          refine rdH 11 (by kernel_rfl) rfl fun K hK => ?_
          rw [if_pos (by rfl)]
          refine Go.wp_store_row _ _ _ rfl (Wn11.heap.size) #[.slice fk (entKey T X s).length fc, .slice fv (entVal T X s).length fvc, .int .i64 0] rfl rfl _ _ HQ18.out (by kernel_rfl) rfl (by simp [Value.oneCell']) ?_
          have p1 := setRow_heap Wn18 (Wn11.heap.size) _ #[.slice fk (entKey T X s).length fc, .slice fv (entVal T X s).length fvc, .int .i64 0] _ _ HQ18.out
          have p2 := setRow_keep13 Wn18 (Wn11.heap.size) #[.slice fk (entKey T X s).length fc, .slice fv (entVal T X s).length fvc, .int .i64 0]
          generalize Wn18.setRow (Wn11.heap.size) #[.slice fk (entKey T X s).length fc, .slice fv (entVal T X s).length fvc, .int .i64 0] = Wn19 at *
          have HBW : Hid (Below w6.heap.size w6 Wn19) := hid (hHeld.out.trans (p2.below hHeld.out.size (fun q e => by have e9 : q = Wn11.heap.size := e; have y0 := HSZ1.out; have y1 := HSZ11.out; have y2 := HSZ16.out; have y3 := HSZ17.out; have y4 := HSZ18.out; have y99 := HLOQ.out; omega)))
          have HKE119 := hid (own_keep HKE118.out p2 (fun q hq e => by have e9 : q = Wn11.heap.size := e; have z1 := (HKE118.out.lt q hq).1; have z2 := HUE11.out.1 q hq; have y0 := HSZ1.out; have y1 := HSZ11.out; have y2 := HSZ16.out; have y3 := HSZ17.out; have y4 := HSZ18.out; omega))
          have HVE119 := hid (own_keep HVE118.out p2 (fun q hq e => by have e9 : q = Wn11.heap.size := e; have z1 := (HVE118.out.lt q hq).1; have z2 := HUE11.out.2 q hq; have y0 := HSZ1.out; have y1 := HSZ11.out; have y2 := HSZ16.out; have y3 := HSZ17.out; have y4 := HSZ18.out; omega))
          have HKE219 := hid (own_keep HKE218.out p2 (fun q hq e => by have e9 : q = Wn11.heap.size := e; have z1 := (HKE218.out.lt q hq).1; have z2 := HUE217.out.1 q hq; have y0 := HSZ1.out; have y1 := HSZ11.out; have y2 := HSZ16.out; have y3 := HSZ17.out; have y4 := HSZ18.out; omega))
          have HVE219 := hid (own_keep HVE218.out p2 (fun q hq e => by have e9 : q = Wn11.heap.size := e; have z1 := (HVE218.out.lt q hq).1; have z2 := HUE217.out.2 q hq; have y0 := HSZ1.out; have y1 := HSZ11.out; have y2 := HSZ16.out; have y3 := HSZ17.out; have y4 := HSZ18.out; omega))
          have HP19 := hid ((p2.block _ (lt_of_block HP18.out) (fun e => by have e9 : Wn1.heap.size = Wn11.heap.size := e; have y0 := HSZ1.out; have y1 := HSZ11.out; have y2 := HSZ16.out; have y3 := HSZ17.out; have y4 := HSZ18.out; omega)).trans HP18.out)
          have HQ19 := hid p1
          have HSZ19 := hid p2.size
          clear p1 p2 hHeld
          refine hK.out _ _ HBW (fun hHeld => ?_)
          clear hK K HBW
          try simp only [Act.put, jA, jB, jC, jD, jE, jF]
          have HBF := hHeld
          refine wpAnyH_done (by kernel_rfl) (NoPanic.normal ?_) _
          clear hHeld
          go_wp2_with fail
          go_meet
          exact ⟨_, _, ek, ec, ev, evc, fk, fc, fv, fvc, rfl, rfl, HP19, HQ19, hid (Rd.own HKE119.out), hid (Rd.own HVE119.out), hid (Rd.own HKE219.out), HBF⟩
      · intro K hK
        go_simp
        have hza := heap_alloc_new Wn1 (.cells #[.slice none 0 0, .slice none 0 0, .int .i64 0] 34)
        have hsa : (Wn1.alloc (.cells #[.slice none 0 0, .slice none 0 0, .int .i64 0] 34)).heap.size = Wn1.heap.size + 1 := by simp
        have hba := (Below.refl Wn1.heap.size Wn1).alloc (Nat.le_refl _) (.cells #[.slice none 0 0, .slice none 0 0, .int .i64 0] 34)
        refine hK.out _ _ (hid (hHeld.out.alloc hHeld.out.size (.cells #[.slice none 0 0, .slice none 0 0, .int .i64 0] 34))) (fun hHeld2 => ?_)
        clear hK K
        try simp only [Act.put, jA, jB, jC, jD, jE, jF]
        have HKE120 := hid (own_old HKE11.out hba)
        have HVE120 := hid (own_old HVE11.out hba)
        generalize Wn1.alloc (.cells #[.slice none 0 0, .slice none 0 0, .int .i64 0] 34) = Wn20 at *
        clear hHeld
        have hHeld := hHeld2
        have HQ20 := hid hza
        have HSZ20 := hid hsa
        clear hHeld2 hza hsa hba
        have HLOQ : Hid (w6.heap.size ≤ Wn1.heap.size) := hid (by have y0 := HSZ1.out; have y1 := HSZ20.out; have y98 := HWD.out; omega)
        refine wpAnyH_ready (rs := [7, 8]) (by kernel_rfl) (by simp) (AllReadyH.cons rfl ?_ (AllReadyH.cons rfl ?_ AllReadyH.nil))
        · intro K hK
          go_simp
          have CQ := hid (entry_ok (HT2.out.old (below_step HCw6.out hHeld.out)) (HX2.out.old (below_step HCw6.out hHeld.out)) HTI.out (HS2.out.old (below_step HCw6.out hHeld.out)) HSS.out)
          go_wp2_with (first | (go_at_call 8; refine CQ.out.mono ?_; rintro en Wn21 ⟨vk9, vv9, rfl, hp9, hbE⟩; have HBE := hid (below_step hHeld.out hbE); have HSZ21 := hid hbE.size; obtain ⟨fk, fc, rfl, -⟩ := zown_rd hp9.1; obtain ⟨fv, fvc, rfl, -⟩ := zown_rd hp9.2; have HKE221 := hid hp9.1; have HVE221 := hid hp9.2; have HUE221 : Hid ((∀ q, (Value.slice fk (entKey T X s).length fc).ownBlock = some q → q < Wn21.heap.size) ∧ (∀ q, (Value.slice fv (entVal T X s).length fvc).ownBlock = some q → q < Wn21.heap.size)) := hid ⟨fun q hq => (hp9.1.lt q hq).2, fun q hq => (hp9.2.lt q hq).2⟩; have HKE121 := hid (own_old HKE120.out hbE); have HVE121 := hid (own_old HVE120.out hbE); have HQ21 := hid ((hbE.block _ (lt_of_block HQ20.out)).trans HQ20.out); clear hp9 hbE))
          clear CQ hHeld
          refine hK.out _ _ HBE (fun hHeld => ?_)
          clear hK K HBE
          try simp only [Act.put, jA, jB, jC, jD, jE, jF]
          refine rdH 8 (by kernel_rfl) rfl fun K hK => ?_
          go_simp
          have hza := heap_alloc_new Wn21 (.cells #[.slice none 0 0, .slice none 0 0, .int .i64 0] 34)
          have hsa : (Wn21.alloc (.cells #[.slice none 0 0, .slice none 0 0, .int .i64 0] 34)).heap.size = Wn21.heap.size + 1 := by simp
          have hba := (Below.refl Wn21.heap.size Wn21).alloc (Nat.le_refl _) (.cells #[.slice none 0 0, .slice none 0 0, .int .i64 0] 34)
          refine hK.out _ _ (hid (hHeld.out.alloc hHeld.out.size (.cells #[.slice none 0 0, .slice none 0 0, .int .i64 0] 34))) (fun hHeld2 => ?_)
          clear hK K
          try simp only [Act.put, jA, jB, jC, jD, jE, jF]
          have HKE122 := hid (own_old HKE121.out hba)
          have HVE122 := hid (own_old HVE121.out hba)
          have HKE222 := hid (own_old HKE221.out hba)
          have HVE222 := hid (own_old HVE221.out hba)
          have HQ22 := hid ((hba.block _ (lt_of_block HQ21.out)).trans HQ21.out)
          generalize Wn21.alloc (.cells #[.slice none 0 0, .slice none 0 0, .int .i64 0] 34) = Wn22 at *
          clear hHeld
          have hHeld := hHeld2
          have HP22 := hid hza
          have HSZ22 := hid hsa
          clear hHeld2 hza hsa hba
          have HLOP : Hid (w6.heap.size ≤ Wn21.heap.size) := hid (by have y0 := HSZ1.out; have y1 := HSZ20.out; have y2 := HSZ21.out; have y3 := HSZ22.out; have y98 := HWD.out; omega)
          refine rdH 10 (by kernel_rfl) rfl fun K hK => ?_
          rw [if_pos (by rfl)]
          refine Go.wp_store_row _ _ _ rfl (Wn21.heap.size) #[.slice ek (entKey T X r).length ec, .slice ev (entVal T X r).length evc, .int .i64 0] rfl rfl _ _ HP22.out (by kernel_rfl) rfl (by simp [Value.oneCell']) ?_
          have p1 := setRow_heap Wn22 (Wn21.heap.size) _ #[.slice ek (entKey T X r).length ec, .slice ev (entVal T X r).length evc, .int .i64 0] _ _ HP22.out
          have p2 := setRow_keep13 Wn22 (Wn21.heap.size) #[.slice ek (entKey T X r).length ec, .slice ev (entVal T X r).length evc, .int .i64 0]
          generalize Wn22.setRow (Wn21.heap.size) #[.slice ek (entKey T X r).length ec, .slice ev (entVal T X r).length evc, .int .i64 0] = Wn23 at *
          have HBW : Hid (Below w6.heap.size w6 Wn23) := hid (hHeld.out.trans (p2.below hHeld.out.size (fun q e => by have e9 : q = Wn21.heap.size := e; have y0 := HSZ1.out; have y1 := HSZ20.out; have y2 := HSZ21.out; have y3 := HSZ22.out; have y99 := HLOP.out; omega)))
          have HKE123 := hid (own_keep HKE122.out p2 (fun q hq e => by have e9 : q = Wn21.heap.size := e; have z1 := (HKE122.out.lt q hq).1; have z2 := HUE11.out.1 q hq; have y0 := HSZ1.out; have y1 := HSZ20.out; have y2 := HSZ21.out; have y3 := HSZ22.out; omega))
          have HVE123 := hid (own_keep HVE122.out p2 (fun q hq e => by have e9 : q = Wn21.heap.size := e; have z1 := (HVE122.out.lt q hq).1; have z2 := HUE11.out.2 q hq; have y0 := HSZ1.out; have y1 := HSZ20.out; have y2 := HSZ21.out; have y3 := HSZ22.out; omega))
          have HKE223 := hid (own_keep HKE222.out p2 (fun q hq e => by have e9 : q = Wn21.heap.size := e; have z1 := (HKE222.out.lt q hq).1; have z2 := HUE221.out.1 q hq; have y0 := HSZ1.out; have y1 := HSZ20.out; have y2 := HSZ21.out; have y3 := HSZ22.out; omega))
          have HVE223 := hid (own_keep HVE222.out p2 (fun q hq e => by have e9 : q = Wn21.heap.size := e; have z1 := (HVE222.out.lt q hq).1; have z2 := HUE221.out.2 q hq; have y0 := HSZ1.out; have y1 := HSZ20.out; have y2 := HSZ21.out; have y3 := HSZ22.out; omega))
          have HQ23 := hid ((p2.block _ (lt_of_block HQ22.out) (fun e => by have e9 : Wn1.heap.size = Wn21.heap.size := e; have y0 := HSZ1.out; have y1 := HSZ20.out; have y2 := HSZ21.out; have y3 := HSZ22.out; omega)).trans HQ22.out)
          have HP23 := hid p1
          have HSZ23 := hid p2.size
          clear p1 p2 hHeld
          refine hK.out _ _ HBW (fun hHeld => ?_)
          clear hK K HBW
          try simp only [Act.put, jA, jB, jC, jD, jE, jF]
          refine rdH 11 (by kernel_rfl) rfl fun K hK => ?_
          rw [if_pos (by rfl)]
          refine Go.wp_store_row _ _ _ rfl (Wn1.heap.size) #[.slice fk (entKey T X s).length fc, .slice fv (entVal T X s).length fvc, .int .i64 0] rfl rfl _ _ HQ23.out (by kernel_rfl) rfl (by simp [Value.oneCell']) ?_
          have p1 := setRow_heap Wn23 (Wn1.heap.size) _ #[.slice fk (entKey T X s).length fc, .slice fv (entVal T X s).length fvc, .int .i64 0] _ _ HQ23.out
          have p2 := setRow_keep13 Wn23 (Wn1.heap.size) #[.slice fk (entKey T X s).length fc, .slice fv (entVal T X s).length fvc, .int .i64 0]
          generalize Wn23.setRow (Wn1.heap.size) #[.slice fk (entKey T X s).length fc, .slice fv (entVal T X s).length fvc, .int .i64 0] = Wn24 at *
          have HBW : Hid (Below w6.heap.size w6 Wn24) := hid (hHeld.out.trans (p2.below hHeld.out.size (fun q e => by have e9 : q = Wn1.heap.size := e; have y0 := HSZ1.out; have y1 := HSZ20.out; have y2 := HSZ21.out; have y3 := HSZ22.out; have y4 := HSZ23.out; have y99 := HLOQ.out; omega)))
          have HKE124 := hid (own_keep HKE123.out p2 (fun q hq e => by have e9 : q = Wn1.heap.size := e; have z1 := (HKE123.out.lt q hq).1; have z2 := HUE11.out.1 q hq; have y0 := HSZ1.out; have y1 := HSZ20.out; have y2 := HSZ21.out; have y3 := HSZ22.out; have y4 := HSZ23.out; omega))
          have HVE124 := hid (own_keep HVE123.out p2 (fun q hq e => by have e9 : q = Wn1.heap.size := e; have z1 := (HVE123.out.lt q hq).1; have z2 := HUE11.out.2 q hq; have y0 := HSZ1.out; have y1 := HSZ20.out; have y2 := HSZ21.out; have y3 := HSZ22.out; have y4 := HSZ23.out; omega))
          have HKE224 := hid (own_keep HKE223.out p2 (fun q hq e => by have e9 : q = Wn1.heap.size := e; have z1 := (HKE223.out.lt q hq).1; have z2 := HUE221.out.1 q hq; have y0 := HSZ1.out; have y1 := HSZ20.out; have y2 := HSZ21.out; have y3 := HSZ22.out; have y4 := HSZ23.out; omega))
          have HVE224 := hid (own_keep HVE223.out p2 (fun q hq e => by have e9 : q = Wn1.heap.size := e; have z1 := (HVE223.out.lt q hq).1; have z2 := HUE221.out.2 q hq; have y0 := HSZ1.out; have y1 := HSZ20.out; have y2 := HSZ21.out; have y3 := HSZ22.out; have y4 := HSZ23.out; omega))
          have HP24 := hid ((p2.block _ (lt_of_block HP23.out) (fun e => by have e9 : Wn21.heap.size = Wn1.heap.size := e; have y0 := HSZ1.out; have y1 := HSZ20.out; have y2 := HSZ21.out; have y3 := HSZ22.out; have y4 := HSZ23.out; omega)).trans HP23.out)
          have HQ24 := hid p1
          have HSZ24 := hid p2.size
          clear p1 p2 hHeld
          refine hK.out _ _ HBW (fun hHeld => ?_)
          clear hK K HBW
          try simp only [Act.put, jA, jB, jC, jD, jE, jF]
          have HBF := hHeld
          refine wpAnyH_done (by kernel_rfl) (NoPanic.normal ?_) _
          clear hHeld
          go_wp2_with fail
          go_meet
          exact ⟨_, _, ek, ec, ev, evc, fk, fc, fv, fvc, rfl, rfl, HP24, HQ24, hid (Rd.own HKE124.out), hid (Rd.own HVE124.out), hid (Rd.own HKE224.out), HBF⟩
        · intro K hK
          go_simp
          have hza := heap_alloc_new Wn20 (.cells #[.slice none 0 0, .slice none 0 0, .int .i64 0] 34)
          have hsa : (Wn20.alloc (.cells #[.slice none 0 0, .slice none 0 0, .int .i64 0] 34)).heap.size = Wn20.heap.size + 1 := by simp
          have hba := (Below.refl Wn20.heap.size Wn20).alloc (Nat.le_refl _) (.cells #[.slice none 0 0, .slice none 0 0, .int .i64 0] 34)
          refine hK.out _ _ (hid (hHeld.out.alloc hHeld.out.size (.cells #[.slice none 0 0, .slice none 0 0, .int .i64 0] 34))) (fun hHeld2 => ?_)
          clear hK K
          try simp only [Act.put, jA, jB, jC, jD, jE, jF]
          have HKE125 := hid (own_old HKE120.out hba)
          have HVE125 := hid (own_old HVE120.out hba)
          have HQ25 := hid ((hba.block _ (lt_of_block HQ20.out)).trans HQ20.out)
          generalize Wn20.alloc (.cells #[.slice none 0 0, .slice none 0 0, .int .i64 0] 34) = Wn25 at *
          clear hHeld
          have hHeld := hHeld2
          have HP25 := hid hza
          have HSZ25 := hid hsa
          clear hHeld2 hza hsa hba
          have HLOP : Hid (w6.heap.size ≤ Wn20.heap.size) := hid (by have y0 := HSZ1.out; have y1 := HSZ20.out; have y2 := HSZ25.out; have y98 := HWD.out; omega)
          refine rdH 7 (by kernel_rfl) rfl fun K hK => ?_
          go_simp
          have CQ := hid (entry_ok (HT2.out.old (below_step HCw6.out hHeld.out)) (HX2.out.old (below_step HCw6.out hHeld.out)) HTI.out (HS2.out.old (below_step HCw6.out hHeld.out)) HSS.out)
          go_wp2_with (first | (go_at_call 8; refine CQ.out.mono ?_; rintro en Wn26 ⟨vk9, vv9, rfl, hp9, hbE⟩; have HBE := hid (below_step hHeld.out hbE); have HSZ26 := hid hbE.size; obtain ⟨fk, fc, rfl, -⟩ := zown_rd hp9.1; obtain ⟨fv, fvc, rfl, -⟩ := zown_rd hp9.2; have HKE226 := hid hp9.1; have HVE226 := hid hp9.2; have HUE226 : Hid ((∀ q, (Value.slice fk (entKey T X s).length fc).ownBlock = some q → q < Wn26.heap.size) ∧ (∀ q, (Value.slice fv (entVal T X s).length fvc).ownBlock = some q → q < Wn26.heap.size)) := hid ⟨fun q hq => (hp9.1.lt q hq).2, fun q hq => (hp9.2.lt q hq).2⟩; have HKE126 := hid (own_old HKE125.out hbE); have HVE126 := hid (own_old HVE125.out hbE); have HP26 := hid ((hbE.block _ (lt_of_block HP25.out)).trans HP25.out); have HQ26 := hid ((hbE.block _ (lt_of_block HQ25.out)).trans HQ25.out); clear hp9 hbE))
          clear CQ hHeld
          refine hK.out _ _ HBE (fun hHeld => ?_)
          clear hK K HBE
          try simp only [Act.put, jA, jB, jC, jD, jE, jF]
          refine rdH 10 (by kernel_rfl) rfl fun K hK => ?_
          rw [if_pos (by rfl)]
          refine Go.wp_store_row _ _ _ rfl (Wn20.heap.size) #[.slice ek (entKey T X r).length ec, .slice ev (entVal T X r).length evc, .int .i64 0] rfl rfl _ _ HP26.out (by kernel_rfl) rfl (by simp [Value.oneCell']) ?_
          have p1 := setRow_heap Wn26 (Wn20.heap.size) _ #[.slice ek (entKey T X r).length ec, .slice ev (entVal T X r).length evc, .int .i64 0] _ _ HP26.out
          have p2 := setRow_keep13 Wn26 (Wn20.heap.size) #[.slice ek (entKey T X r).length ec, .slice ev (entVal T X r).length evc, .int .i64 0]
          generalize Wn26.setRow (Wn20.heap.size) #[.slice ek (entKey T X r).length ec, .slice ev (entVal T X r).length evc, .int .i64 0] = Wn27 at *
          have HBW : Hid (Below w6.heap.size w6 Wn27) := hid (hHeld.out.trans (p2.below hHeld.out.size (fun q e => by have e9 : q = Wn20.heap.size := e; have y0 := HSZ1.out; have y1 := HSZ20.out; have y2 := HSZ25.out; have y3 := HSZ26.out; have y99 := HLOP.out; omega)))
          have HKE127 := hid (own_keep HKE126.out p2 (fun q hq e => by have e9 : q = Wn20.heap.size := e; have z1 := (HKE126.out.lt q hq).1; have z2 := HUE11.out.1 q hq; have y0 := HSZ1.out; have y1 := HSZ20.out; have y2 := HSZ25.out; have y3 := HSZ26.out; omega))
          have HVE127 := hid (own_keep HVE126.out p2 (fun q hq e => by have e9 : q = Wn20.heap.size := e; have z1 := (HVE126.out.lt q hq).1; have z2 := HUE11.out.2 q hq; have y0 := HSZ1.out; have y1 := HSZ20.out; have y2 := HSZ25.out; have y3 := HSZ26.out; omega))
          have HKE227 := hid (own_keep HKE226.out p2 (fun q hq e => by have e9 : q = Wn20.heap.size := e; have z1 := (HKE226.out.lt q hq).1; have z2 := HUE226.out.1 q hq; have y0 := HSZ1.out; have y1 := HSZ20.out; have y2 := HSZ25.out; have y3 := HSZ26.out; omega))
          have HVE227 := hid (own_keep HVE226.out p2 (fun q hq e => by have e9 : q = Wn20.heap.size := e; have z1 := (HVE226.out.lt q hq).1; have z2 := HUE226.out.2 q hq; have y0 := HSZ1.out; have y1 := HSZ20.out; have y2 := HSZ25.out; have y3 := HSZ26.out; omega))
          have HQ27 := hid ((p2.block _ (lt_of_block HQ26.out) (fun e => by have e9 : Wn1.heap.size = Wn20.heap.size := e; have y0 := HSZ1.out; have y1 := HSZ20.out; have y2 := HSZ25.out; have y3 := HSZ26.out; omega)).trans HQ26.out)
          have HP27 := hid p1
          have HSZ27 := hid p2.size
          clear p1 p2 hHeld
          refine hK.out _ _ HBW (fun hHeld => ?_)
          clear hK K HBW
          try simp only [Act.put, jA, jB, jC, jD, jE, jF]
          refine rdH 11 (by kernel_rfl) rfl fun K hK => ?_
          rw [if_pos (by rfl)]
          refine Go.wp_store_row _ _ _ rfl (Wn1.heap.size) #[.slice fk (entKey T X s).length fc, .slice fv (entVal T X s).length fvc, .int .i64 0] rfl rfl _ _ HQ27.out (by kernel_rfl) rfl (by simp [Value.oneCell']) ?_
          have p1 := setRow_heap Wn27 (Wn1.heap.size) _ #[.slice fk (entKey T X s).length fc, .slice fv (entVal T X s).length fvc, .int .i64 0] _ _ HQ27.out
          have p2 := setRow_keep13 Wn27 (Wn1.heap.size) #[.slice fk (entKey T X s).length fc, .slice fv (entVal T X s).length fvc, .int .i64 0]
          generalize Wn27.setRow (Wn1.heap.size) #[.slice fk (entKey T X s).length fc, .slice fv (entVal T X s).length fvc, .int .i64 0] = Wn28 at *
          have HBW : Hid (Below w6.heap.size w6 Wn28) := hid (hHeld.out.trans (p2.below hHeld.out.size (fun q e => by have e9 : q = Wn1.heap.size := e; have y0 := HSZ1.out; have y1 := HSZ20.out; have y2 := HSZ25.out; have y3 := HSZ26.out; have y4 := HSZ27.out; have y99 := HLOQ.out; omega)))
          have HKE128 := hid (own_keep HKE127.out p2 (fun q hq e => by have e9 : q = Wn1.heap.size := e; have z1 := (HKE127.out.lt q hq).1; have z2 := HUE11.out.1 q hq; have y0 := HSZ1.out; have y1 := HSZ20.out; have y2 := HSZ25.out; have y3 := HSZ26.out; have y4 := HSZ27.out; omega))
          have HVE128 := hid (own_keep HVE127.out p2 (fun q hq e => by have e9 : q = Wn1.heap.size := e; have z1 := (HVE127.out.lt q hq).1; have z2 := HUE11.out.2 q hq; have y0 := HSZ1.out; have y1 := HSZ20.out; have y2 := HSZ25.out; have y3 := HSZ26.out; have y4 := HSZ27.out; omega))
          have HKE228 := hid (own_keep HKE227.out p2 (fun q hq e => by have e9 : q = Wn1.heap.size := e; have z1 := (HKE227.out.lt q hq).1; have z2 := HUE226.out.1 q hq; have y0 := HSZ1.out; have y1 := HSZ20.out; have y2 := HSZ25.out; have y3 := HSZ26.out; have y4 := HSZ27.out; omega))
          have HVE228 := hid (own_keep HVE227.out p2 (fun q hq e => by have e9 : q = Wn1.heap.size := e; have z1 := (HVE227.out.lt q hq).1; have z2 := HUE226.out.2 q hq; have y0 := HSZ1.out; have y1 := HSZ20.out; have y2 := HSZ25.out; have y3 := HSZ26.out; have y4 := HSZ27.out; omega))
          have HP28 := hid ((p2.block _ (lt_of_block HP27.out) (fun e => by have e9 : Wn20.heap.size = Wn1.heap.size := e; have y0 := HSZ1.out; have y1 := HSZ20.out; have y2 := HSZ25.out; have y3 := HSZ26.out; have y4 := HSZ27.out; omega)).trans HP27.out)
          have HQ28 := hid p1
          have HSZ28 := hid p2.size
          clear p1 p2 hHeld
          refine hK.out _ _ HBW (fun hHeld => ?_)
          clear hK K HBW
          try simp only [Act.put, jA, jB, jC, jD, jE, jF]
          have HBF := hHeld
          refine wpAnyH_done (by kernel_rfl) (NoPanic.normal ?_) _
          clear hHeld
          go_wp2_with fail
          go_meet
          exact ⟨_, _, ek, ec, ev, evc, fk, fc, fv, fvc, rfl, rfl, HP28, HQ28, hid (Rd.own HKE128.out), hid (Rd.own HVE128.out), hid (Rd.own HKE228.out), HBF⟩
    · intro K hK
      go_simp
      have hza := heap_alloc_new Wd (.cells #[.slice none 0 0, .slice none 0 0, .int .i64 0] 34)
      have hsa : (Wd.alloc (.cells #[.slice none 0 0, .slice none 0 0, .int .i64 0] 34)).heap.size = Wd.heap.size + 1 := by simp
      have hba := (Below.refl Wd.heap.size Wd).alloc (Nat.le_refl _) (.cells #[.slice none 0 0, .slice none 0 0, .int .i64 0] 34)
      refine hK.out _ _ (hid (hHeld.out.alloc hHeld.out.size (.cells #[.slice none 0 0, .slice none 0 0, .int .i64 0] 34))) (fun hHeld2 => ?_)
      clear hK K
      try simp only [Act.put, jA, jB, jC, jD, jE, jF]
      generalize Wd.alloc (.cells #[.slice none 0 0, .slice none 0 0, .int .i64 0] 34) = Wn29 at *
      clear hHeld
      have hHeld := hHeld2
      have HP29 := hid hza
      have HSZ29 := hid hsa
      clear hHeld2 hza hsa hba
      have HLOP : Hid (w6.heap.size ≤ Wd.heap.size) := hid (by have y0 := HSZ29.out; have y98 := HWD.out; omega)
      refine wpAnyH_ready (rs := [3, 9]) (by kernel_rfl) (by simp) (AllReadyH.cons rfl ?_ (AllReadyH.cons rfl ?_ AllReadyH.nil))
      · intro K hK
        go_simp
        have CQ := hid (entry_ok (HT2.out.old (below_step HCw6.out hHeld.out)) (HX2.out.old (below_step HCw6.out hHeld.out)) HTI.out (HR2.out.old (below_step HCw6.out hHeld.out)) HRR.out)
        go_wp2_with (first | (go_at_call 8; refine CQ.out.mono ?_; rintro en Wn30 ⟨vk9, vv9, rfl, hp9, hbE⟩; have HBE := hid (below_step hHeld.out hbE); have HSZ30 := hid hbE.size; obtain ⟨ek, ec, rfl, -⟩ := zown_rd hp9.1; obtain ⟨ev, evc, rfl, -⟩ := zown_rd hp9.2; have HKE130 := hid hp9.1; have HVE130 := hid hp9.2; have HUE130 : Hid ((∀ q, (Value.slice ek (entKey T X r).length ec).ownBlock = some q → q < Wn30.heap.size) ∧ (∀ q, (Value.slice ev (entVal T X r).length evc).ownBlock = some q → q < Wn30.heap.size)) := hid ⟨fun q hq => (hp9.1.lt q hq).2, fun q hq => (hp9.2.lt q hq).2⟩; have HP30 := hid ((hbE.block _ (lt_of_block HP29.out)).trans HP29.out); clear hp9 hbE))
        clear CQ hHeld
        refine hK.out _ _ HBE (fun hHeld => ?_)
        clear hK K HBE
        try simp only [Act.put, jA, jB, jC, jD, jE, jF]
        refine wpAnyH_ready (rs := [7, 9]) (by kernel_rfl) (by simp) (AllReadyH.cons rfl ?_ (AllReadyH.cons rfl ?_ AllReadyH.nil))
        · intro K hK
          go_simp
          have CQ := hid (entry_ok (HT2.out.old (below_step HCw6.out hHeld.out)) (HX2.out.old (below_step HCw6.out hHeld.out)) HTI.out (HS2.out.old (below_step HCw6.out hHeld.out)) HSS.out)
          go_wp2_with (first | (go_at_call 8; refine CQ.out.mono ?_; rintro en Wn31 ⟨vk9, vv9, rfl, hp9, hbE⟩; have HBE := hid (below_step hHeld.out hbE); have HSZ31 := hid hbE.size; obtain ⟨fk, fc, rfl, -⟩ := zown_rd hp9.1; obtain ⟨fv, fvc, rfl, -⟩ := zown_rd hp9.2; have HKE231 := hid hp9.1; have HVE231 := hid hp9.2; have HUE231 : Hid ((∀ q, (Value.slice fk (entKey T X s).length fc).ownBlock = some q → q < Wn31.heap.size) ∧ (∀ q, (Value.slice fv (entVal T X s).length fvc).ownBlock = some q → q < Wn31.heap.size)) := hid ⟨fun q hq => (hp9.1.lt q hq).2, fun q hq => (hp9.2.lt q hq).2⟩; have HKE131 := hid (own_old HKE130.out hbE); have HVE131 := hid (own_old HVE130.out hbE); have HP31 := hid ((hbE.block _ (lt_of_block HP30.out)).trans HP30.out); clear hp9 hbE))
          clear CQ hHeld
          refine hK.out _ _ HBE (fun hHeld => ?_)
          clear hK K HBE
          try simp only [Act.put, jA, jB, jC, jD, jE, jF]
          refine rdH 9 (by kernel_rfl) rfl fun K hK => ?_
          go_simp
          have hza := heap_alloc_new Wn31 (.cells #[.slice none 0 0, .slice none 0 0, .int .i64 0] 34)
          have hsa : (Wn31.alloc (.cells #[.slice none 0 0, .slice none 0 0, .int .i64 0] 34)).heap.size = Wn31.heap.size + 1 := by simp
          have hba := (Below.refl Wn31.heap.size Wn31).alloc (Nat.le_refl _) (.cells #[.slice none 0 0, .slice none 0 0, .int .i64 0] 34)
          refine hK.out _ _ (hid (hHeld.out.alloc hHeld.out.size (.cells #[.slice none 0 0, .slice none 0 0, .int .i64 0] 34))) (fun hHeld2 => ?_)
          clear hK K
          try simp only [Act.put, jA, jB, jC, jD, jE, jF]
          have HKE132 := hid (own_old HKE131.out hba)
          have HVE132 := hid (own_old HVE131.out hba)
          have HKE232 := hid (own_old HKE231.out hba)
          have HVE232 := hid (own_old HVE231.out hba)
          have HP32 := hid ((hba.block _ (lt_of_block HP31.out)).trans HP31.out)
          generalize Wn31.alloc (.cells #[.slice none 0 0, .slice none 0 0, .int .i64 0] 34) = Wn32 at *
          clear hHeld
          have hHeld := hHeld2
          have HQ32 := hid hza
          have HSZ32 := hid hsa
          clear hHeld2 hza hsa hba
          have HLOQ : Hid (w6.heap.size ≤ Wn31.heap.size) := hid (by have y0 := HSZ29.out; have y1 := HSZ30.out; have y2 := HSZ31.out; have y3 := HSZ32.out; have y98 := HWD.out; omega)
          refine rdH 10 (by kernel_rfl) rfl fun K hK => ?_
          rw [if_pos (by rfl)]
          refine Go.wp_store_row _ _ _ rfl (Wd.heap.size) #[.slice ek (entKey T X r).length ec, .slice ev (entVal T X r).length evc, .int .i64 0] rfl rfl _ _ HP32.out (by kernel_rfl) rfl (by simp [Value.oneCell']) ?_
          have p1 := setRow_heap Wn32 (Wd.heap.size) _ #[.slice ek (entKey T X r).length ec, .slice ev (entVal T X r).length evc, .int .i64 0] _ _ HP32.out
          have p2 := setRow_keep13 Wn32 (Wd.heap.size) #[.slice ek (entKey T X r).length ec, .slice ev (entVal T X r).length evc, .int .i64 0]
          generalize Wn32.setRow (Wd.heap.size) #[.slice ek (entKey T X r).length ec, .slice ev (entVal T X r).length evc, .int .i64 0] = Wn33 at *
          have HBW : Hid (Below w6.heap.size w6 Wn33) := hid (hHeld.out.trans (p2.below hHeld.out.size (fun q e => by have e9 : q = Wd.heap.size := e; have y0 := HSZ29.out; have y1 := HSZ30.out; have y2 := HSZ31.out; have y3 := HSZ32.out; have y99 := HLOP.out; omega)))
          have HKE133 := hid (own_keep HKE132.out p2 (fun q hq e => by have e9 : q = Wd.heap.size := e; have z1 := (HKE132.out.lt q hq).1; have z2 := HUE130.out.1 q hq; have y0 := HSZ29.out; have y1 := HSZ30.out; have y2 := HSZ31.out; have y3 := HSZ32.out; omega))
          have HVE133 := hid (own_keep HVE132.out p2 (fun q hq e => by have e9 : q = Wd.heap.size := e; have z1 := (HVE132.out.lt q hq).1; have z2 := HUE130.out.2 q hq; have y0 := HSZ29.out; have y1 := HSZ30.out; have y2 := HSZ31.out; have y3 := HSZ32.out; omega))
          have HKE233 := hid (own_keep HKE232.out p2 (fun q hq e => by have e9 : q = Wd.heap.size := e; have z1 := (HKE232.out.lt q hq).1; have z2 := HUE231.out.1 q hq; have y0 := HSZ29.out; have y1 := HSZ30.out; have y2 := HSZ31.out; have y3 := HSZ32.out; omega))
          have HVE233 := hid (own_keep HVE232.out p2 (fun q hq e => by have e9 : q = Wd.heap.size := e; have z1 := (HVE232.out.lt q hq).1; have z2 := HUE231.out.2 q hq; have y0 := HSZ29.out; have y1 := HSZ30.out; have y2 := HSZ31.out; have y3 := HSZ32.out; omega))
          have HQ33 := hid ((p2.block _ (lt_of_block HQ32.out) (fun e => by have e9 : Wn31.heap.size = Wd.heap.size := e; have y0 := HSZ29.out; have y1 := HSZ30.out; have y2 := HSZ31.out; have y3 := HSZ32.out; omega)).trans HQ32.out)
          have HP33 := hid p1
          have HSZ33 := hid p2.size
          clear p1 p2 hHeld
          refine hK.out _ _ HBW (fun hHeld => ?_)
          clear hK K HBW
          try simp only [Act.put, jA, jB, jC, jD, jE, jF]
          refine rdH 11 (by kernel_rfl) rfl fun K hK => ?_
          rw [if_pos (by rfl)]
          refine Go.wp_store_row _ _ _ rfl (Wn31.heap.size) #[.slice fk (entKey T X s).length fc, .slice fv (entVal T X s).length fvc, .int .i64 0] rfl rfl _ _ HQ33.out (by kernel_rfl) rfl (by simp [Value.oneCell']) ?_
          have p1 := setRow_heap Wn33 (Wn31.heap.size) _ #[.slice fk (entKey T X s).length fc, .slice fv (entVal T X s).length fvc, .int .i64 0] _ _ HQ33.out
          have p2 := setRow_keep13 Wn33 (Wn31.heap.size) #[.slice fk (entKey T X s).length fc, .slice fv (entVal T X s).length fvc, .int .i64 0]
          generalize Wn33.setRow (Wn31.heap.size) #[.slice fk (entKey T X s).length fc, .slice fv (entVal T X s).length fvc, .int .i64 0] = Wn34 at *
          have HBW : Hid (Below w6.heap.size w6 Wn34) := hid (hHeld.out.trans (p2.below hHeld.out.size (fun q e => by have e9 : q = Wn31.heap.size := e; have y0 := HSZ29.out; have y1 := HSZ30.out; have y2 := HSZ31.out; have y3 := HSZ32.out; have y4 := HSZ33.out; have y99 := HLOQ.out; omega)))
          have HKE134 := hid (own_keep HKE133.out p2 (fun q hq e => by have e9 : q = Wn31.heap.size := e; have z1 := (HKE133.out.lt q hq).1; have z2 := HUE130.out.1 q hq; have y0 := HSZ29.out; have y1 := HSZ30.out; have y2 := HSZ31.out; have y3 := HSZ32.out; have y4 := HSZ33.out; omega))
          have HVE134 := hid (own_keep HVE133.out p2 (fun q hq e => by have e9 : q = Wn31.heap.size := e; have z1 := (HVE133.out.lt q hq).1; have z2 := HUE130.out.2 q hq; have y0 := HSZ29.out; have y1 := HSZ30.out; have y2 := HSZ31.out; have y3 := HSZ32.out; have y4 := HSZ33.out; omega))
          have HKE234 := hid (own_keep HKE233.out p2 (fun q hq e => by have e9 : q = Wn31.heap.size := e; have z1 := (HKE233.out.lt q hq).1; have z2 := HUE231.out.1 q hq; have y0 := HSZ29.out; have y1 := HSZ30.out; have y2 := HSZ31.out; have y3 := HSZ32.out; have y4 := HSZ33.out; omega))
          have HVE234 := hid (own_keep HVE233.out p2 (fun q hq e => by have e9 : q = Wn31.heap.size := e; have z1 := (HVE233.out.lt q hq).1; have z2 := HUE231.out.2 q hq; have y0 := HSZ29.out; have y1 := HSZ30.out; have y2 := HSZ31.out; have y3 := HSZ32.out; have y4 := HSZ33.out; omega))
          have HP34 := hid ((p2.block _ (lt_of_block HP33.out) (fun e => by have e9 : Wd.heap.size = Wn31.heap.size := e; have y0 := HSZ29.out; have y1 := HSZ30.out; have y2 := HSZ31.out; have y3 := HSZ32.out; have y4 := HSZ33.out; omega)).trans HP33.out)
          have HQ34 := hid p1
          have HSZ34 := hid p2.size
          clear p1 p2 hHeld
          refine hK.out _ _ HBW (fun hHeld => ?_)
          clear hK K HBW
          try simp only [Act.put, jA, jB, jC, jD, jE, jF]
          have HBF := hHeld
          refine wpAnyH_done (by kernel_rfl) (NoPanic.normal ?_) _
          clear hHeld
          go_wp2_with fail
          go_meet
          exact ⟨_, _, ek, ec, ev, evc, fk, fc, fv, fvc, rfl, rfl, HP34, HQ34, hid (Rd.own HKE134.out), hid (Rd.own HVE134.out), hid (Rd.own HKE234.out), HBF⟩
        · intro K hK
          go_simp
          have hza := heap_alloc_new Wn30 (.cells #[.slice none 0 0, .slice none 0 0, .int .i64 0] 34)
          have hsa : (Wn30.alloc (.cells #[.slice none 0 0, .slice none 0 0, .int .i64 0] 34)).heap.size = Wn30.heap.size + 1 := by simp
          have hba := (Below.refl Wn30.heap.size Wn30).alloc (Nat.le_refl _) (.cells #[.slice none 0 0, .slice none 0 0, .int .i64 0] 34)
          refine hK.out _ _ (hid (hHeld.out.alloc hHeld.out.size (.cells #[.slice none 0 0, .slice none 0 0, .int .i64 0] 34))) (fun hHeld2 => ?_)
          clear hK K
          try simp only [Act.put, jA, jB, jC, jD, jE, jF]
          have HKE135 := hid (own_old HKE130.out hba)
          have HVE135 := hid (own_old HVE130.out hba)
          have HP35 := hid ((hba.block _ (lt_of_block HP30.out)).trans HP30.out)
          generalize Wn30.alloc (.cells #[.slice none 0 0, .slice none 0 0, .int .i64 0] 34) = Wn35 at *
          clear hHeld
          have hHeld := hHeld2
          have HQ35 := hid hza
          have HSZ35 := hid hsa
          clear hHeld2 hza hsa hba
          have HLOQ : Hid (w6.heap.size ≤ Wn30.heap.size) := hid (by have y0 := HSZ29.out; have y1 := HSZ30.out; have y2 := HSZ35.out; have y98 := HWD.out; omega)
          refine rdH 7 (by kernel_rfl) rfl fun K hK => ?_
          go_simp
          have CQ := hid (entry_ok (HT2.out.old (below_step HCw6.out hHeld.out)) (HX2.out.old (below_step HCw6.out hHeld.out)) HTI.out (HS2.out.old (below_step HCw6.out hHeld.out)) HSS.out)
          go_wp2_with (first | (go_at_call 8; refine CQ.out.mono ?_; rintro en Wn36 ⟨vk9, vv9, rfl, hp9, hbE⟩; have HBE := hid (below_step hHeld.out hbE); have HSZ36 := hid hbE.size; obtain ⟨fk, fc, rfl, -⟩ := zown_rd hp9.1; obtain ⟨fv, fvc, rfl, -⟩ := zown_rd hp9.2; have HKE236 := hid hp9.1; have HVE236 := hid hp9.2; have HUE236 : Hid ((∀ q, (Value.slice fk (entKey T X s).length fc).ownBlock = some q → q < Wn36.heap.size) ∧ (∀ q, (Value.slice fv (entVal T X s).length fvc).ownBlock = some q → q < Wn36.heap.size)) := hid ⟨fun q hq => (hp9.1.lt q hq).2, fun q hq => (hp9.2.lt q hq).2⟩; have HKE136 := hid (own_old HKE135.out hbE); have HVE136 := hid (own_old HVE135.out hbE); have HP36 := hid ((hbE.block _ (lt_of_block HP35.out)).trans HP35.out); have HQ36 := hid ((hbE.block _ (lt_of_block HQ35.out)).trans HQ35.out); clear hp9 hbE))
          clear CQ hHeld
          refine hK.out _ _ HBE (fun hHeld => ?_)
          clear hK K HBE
          try simp only [Act.put, jA, jB, jC, jD, jE, jF]
          refine rdH 10 (by kernel_rfl) rfl fun K hK => ?_
          rw [if_pos (by rfl)]
          refine Go.wp_store_row _ _ _ rfl (Wd.heap.size) #[.slice ek (entKey T X r).length ec, .slice ev (entVal T X r).length evc, .int .i64 0] rfl rfl _ _ HP36.out (by kernel_rfl) rfl (by simp [Value.oneCell']) ?_
          have p1 := setRow_heap Wn36 (Wd.heap.size) _ #[.slice ek (entKey T X r).length ec, .slice ev (entVal T X r).length evc, .int .i64 0] _ _ HP36.out
          have p2 := setRow_keep13 Wn36 (Wd.heap.size) #[.slice ek (entKey T X r).length ec, .slice ev (entVal T X r).length evc, .int .i64 0]
          generalize Wn36.setRow (Wd.heap.size) #[.slice ek (entKey T X r).length ec, .slice ev (entVal T X r).length evc, .int .i64 0] = Wn37 at *
          have HBW : Hid (Below w6.heap.size w6 Wn37) := hid (hHeld.out.trans (p2.below hHeld.out.size (fun q e => by have e9 : q = Wd.heap.size := e; have y0 := HSZ29.out; have y1 := HSZ30.out; have y2 := HSZ35.out; have y3 := HSZ36.out; have y99 := HLOP.out; omega)))
          have HKE137 := hid (own_keep HKE136.out p2 (fun q hq e => by have e9 : q = Wd.heap.size := e; have z1 := (HKE136.out.lt q hq).1; have z2 := HUE130.out.1 q hq; have y0 := HSZ29.out; have y1 := HSZ30.out; have y2 := HSZ35.out; have y3 := HSZ36.out; omega))
          have HVE137 := hid (own_keep HVE136.out p2 (fun q hq e => by have e9 : q = Wd.heap.size := e; have z1 := (HVE136.out.lt q hq).1; have z2 := HUE130.out.2 q hq; have y0 := HSZ29.out; have y1 := HSZ30.out; have y2 := HSZ35.out; have y3 := HSZ36.out; omega))
          have HKE237 := hid (own_keep HKE236.out p2 (fun q hq e => by have e9 : q = Wd.heap.size := e; have z1 := (HKE236.out.lt q hq).1; have z2 := HUE236.out.1 q hq; have y0 := HSZ29.out; have y1 := HSZ30.out; have y2 := HSZ35.out; have y3 := HSZ36.out; omega))
          have HVE237 := hid (own_keep HVE236.out p2 (fun q hq e => by have e9 : q = Wd.heap.size := e; have z1 := (HVE236.out.lt q hq).1; have z2 := HUE236.out.2 q hq; have y0 := HSZ29.out; have y1 := HSZ30.out; have y2 := HSZ35.out; have y3 := HSZ36.out; omega))
          have HQ37 := hid ((p2.block _ (lt_of_block HQ36.out) (fun e => by have e9 : Wn30.heap.size = Wd.heap.size := e; have y0 := HSZ29.out; have y1 := HSZ30.out; have y2 := HSZ35.out; have y3 := HSZ36.out; omega)).trans HQ36.out)
          have HP37 := hid p1
          have HSZ37 := hid p2.size
          clear p1 p2 hHeld
          refine hK.out _ _ HBW (fun hHeld => ?_)
          clear hK K HBW
          try simp only [Act.put, jA, jB, jC, jD, jE, jF]
          refine rdH 11 (by kernel_rfl) rfl fun K hK => ?_
          rw [if_pos (by rfl)]
          refine Go.wp_store_row _ _ _ rfl (Wn30.heap.size) #[.slice fk (entKey T X s).length fc, .slice fv (entVal T X s).length fvc, .int .i64 0] rfl rfl _ _ HQ37.out (by kernel_rfl) rfl (by simp [Value.oneCell']) ?_
          have p1 := setRow_heap Wn37 (Wn30.heap.size) _ #[.slice fk (entKey T X s).length fc, .slice fv (entVal T X s).length fvc, .int .i64 0] _ _ HQ37.out
          have p2 := setRow_keep13 Wn37 (Wn30.heap.size) #[.slice fk (entKey T X s).length fc, .slice fv (entVal T X s).length fvc, .int .i64 0]
          generalize Wn37.setRow (Wn30.heap.size) #[.slice fk (entKey T X s).length fc, .slice fv (entVal T X s).length fvc, .int .i64 0] = Wn38 at *
          have HBW : Hid (Below w6.heap.size w6 Wn38) := hid (hHeld.out.trans (p2.below hHeld.out.size (fun q e => by have e9 : q = Wn30.heap.size := e; have y0 := HSZ29.out; have y1 := HSZ30.out; have y2 := HSZ35.out; have y3 := HSZ36.out; have y4 := HSZ37.out; have y99 := HLOQ.out; omega)))
          have HKE138 := hid (own_keep HKE137.out p2 (fun q hq e => by have e9 : q = Wn30.heap.size := e; have z1 := (HKE137.out.lt q hq).1; have z2 := HUE130.out.1 q hq; have y0 := HSZ29.out; have y1 := HSZ30.out; have y2 := HSZ35.out; have y3 := HSZ36.out; have y4 := HSZ37.out; omega))
          have HVE138 := hid (own_keep HVE137.out p2 (fun q hq e => by have e9 : q = Wn30.heap.size := e; have z1 := (HVE137.out.lt q hq).1; have z2 := HUE130.out.2 q hq; have y0 := HSZ29.out; have y1 := HSZ30.out; have y2 := HSZ35.out; have y3 := HSZ36.out; have y4 := HSZ37.out; omega))
          have HKE238 := hid (own_keep HKE237.out p2 (fun q hq e => by have e9 : q = Wn30.heap.size := e; have z1 := (HKE237.out.lt q hq).1; have z2 := HUE236.out.1 q hq; have y0 := HSZ29.out; have y1 := HSZ30.out; have y2 := HSZ35.out; have y3 := HSZ36.out; have y4 := HSZ37.out; omega))
          have HVE238 := hid (own_keep HVE237.out p2 (fun q hq e => by have e9 : q = Wn30.heap.size := e; have z1 := (HVE237.out.lt q hq).1; have z2 := HUE236.out.2 q hq; have y0 := HSZ29.out; have y1 := HSZ30.out; have y2 := HSZ35.out; have y3 := HSZ36.out; have y4 := HSZ37.out; omega))
          have HP38 := hid ((p2.block _ (lt_of_block HP37.out) (fun e => by have e9 : Wd.heap.size = Wn30.heap.size := e; have y0 := HSZ29.out; have y1 := HSZ30.out; have y2 := HSZ35.out; have y3 := HSZ36.out; have y4 := HSZ37.out; omega)).trans HP37.out)
          have HQ38 := hid p1
          have HSZ38 := hid p2.size
          clear p1 p2 hHeld
          refine hK.out _ _ HBW (fun hHeld => ?_)
          clear hK K HBW
          try simp only [Act.put, jA, jB, jC, jD, jE, jF]
          have HBF := hHeld
          refine wpAnyH_done (by kernel_rfl) (NoPanic.normal ?_) _
          clear hHeld
          go_wp2_with fail
          go_meet
          exact ⟨_, _, ek, ec, ev, evc, fk, fc, fv, fvc, rfl, rfl, HP38, HQ38, hid (Rd.own HKE138.out), hid (Rd.own HVE138.out), hid (Rd.own HKE238.out), HBF⟩
      · intro K hK
        go_simp
        have hza := heap_alloc_new Wn29 (.cells #[.slice none 0 0, .slice none 0 0, .int .i64 0] 34)
        have hsa : (Wn29.alloc (.cells #[.slice none 0 0, .slice none 0 0, .int .i64 0] 34)).heap.size = Wn29.heap.size + 1 := by simp
        have hba := (Below.refl Wn29.heap.size Wn29).alloc (Nat.le_refl _) (.cells #[.slice none 0 0, .slice none 0 0, .int .i64 0] 34)
        refine hK.out _ _ (hid (hHeld.out.alloc hHeld.out.size (.cells #[.slice none 0 0, .slice none 0 0, .int .i64 0] 34))) (fun hHeld2 => ?_)
        clear hK K
        try simp only [Act.put, jA, jB, jC, jD, jE, jF]
        have HP39 := hid ((hba.block _ (lt_of_block HP29.out)).trans HP29.out)
        generalize Wn29.alloc (.cells #[.slice none 0 0, .slice none 0 0, .int .i64 0] 34) = Wn39 at *
        clear hHeld
        have hHeld := hHeld2
        have HQ39 := hid hza
        have HSZ39 := hid hsa
        clear hHeld2 hza hsa hba
        have HLOQ : Hid (w6.heap.size ≤ Wn29.heap.size) := hid (by have y0 := HSZ29.out; have y1 := HSZ39.out; have y98 := HWD.out; omega)
        refine rdH 3 (by kernel_rfl) rfl fun K hK => ?_
        go_simp
        have CQ := hid (entry_ok (HT2.out.old (below_step HCw6.out hHeld.out)) (HX2.out.old (below_step HCw6.out hHeld.out)) HTI.out (HR2.out.old (below_step HCw6.out hHeld.out)) HRR.out)
        go_wp2_with (first | (go_at_call 8; refine CQ.out.mono ?_; rintro en Wn40 ⟨vk9, vv9, rfl, hp9, hbE⟩; have HBE := hid (below_step hHeld.out hbE); have HSZ40 := hid hbE.size; obtain ⟨ek, ec, rfl, -⟩ := zown_rd hp9.1; obtain ⟨ev, evc, rfl, -⟩ := zown_rd hp9.2; have HKE140 := hid hp9.1; have HVE140 := hid hp9.2; have HUE140 : Hid ((∀ q, (Value.slice ek (entKey T X r).length ec).ownBlock = some q → q < Wn40.heap.size) ∧ (∀ q, (Value.slice ev (entVal T X r).length evc).ownBlock = some q → q < Wn40.heap.size)) := hid ⟨fun q hq => (hp9.1.lt q hq).2, fun q hq => (hp9.2.lt q hq).2⟩; have HP40 := hid ((hbE.block _ (lt_of_block HP39.out)).trans HP39.out); have HQ40 := hid ((hbE.block _ (lt_of_block HQ39.out)).trans HQ39.out); clear hp9 hbE))
        clear CQ hHeld
        refine hK.out _ _ HBE (fun hHeld => ?_)
        clear hK K HBE
        try simp only [Act.put, jA, jB, jC, jD, jE, jF]
        refine rdH 7 (by kernel_rfl) rfl fun K hK => ?_
        go_simp
        have CQ := hid (entry_ok (HT2.out.old (below_step HCw6.out hHeld.out)) (HX2.out.old (below_step HCw6.out hHeld.out)) HTI.out (HS2.out.old (below_step HCw6.out hHeld.out)) HSS.out)
        go_wp2_with (first | (go_at_call 8; refine CQ.out.mono ?_; rintro en Wn41 ⟨vk9, vv9, rfl, hp9, hbE⟩; have HBE := hid (below_step hHeld.out hbE); have HSZ41 := hid hbE.size; obtain ⟨fk, fc, rfl, -⟩ := zown_rd hp9.1; obtain ⟨fv, fvc, rfl, -⟩ := zown_rd hp9.2; have HKE241 := hid hp9.1; have HVE241 := hid hp9.2; have HUE241 : Hid ((∀ q, (Value.slice fk (entKey T X s).length fc).ownBlock = some q → q < Wn41.heap.size) ∧ (∀ q, (Value.slice fv (entVal T X s).length fvc).ownBlock = some q → q < Wn41.heap.size)) := hid ⟨fun q hq => (hp9.1.lt q hq).2, fun q hq => (hp9.2.lt q hq).2⟩; have HKE141 := hid (own_old HKE140.out hbE); have HVE141 := hid (own_old HVE140.out hbE); have HP41 := hid ((hbE.block _ (lt_of_block HP40.out)).trans HP40.out); have HQ41 := hid ((hbE.block _ (lt_of_block HQ40.out)).trans HQ40.out); clear hp9 hbE))
        clear CQ hHeld
        refine hK.out _ _ HBE (fun hHeld => ?_)
        clear hK K HBE
        try simp only [Act.put, jA, jB, jC, jD, jE, jF]
        refine rdH 10 (by kernel_rfl) rfl fun K hK => ?_
        rw [if_pos (by rfl)]
        refine Go.wp_store_row _ _ _ rfl (Wd.heap.size) #[.slice ek (entKey T X r).length ec, .slice ev (entVal T X r).length evc, .int .i64 0] rfl rfl _ _ HP41.out (by kernel_rfl) rfl (by simp [Value.oneCell']) ?_
        have p1 := setRow_heap Wn41 (Wd.heap.size) _ #[.slice ek (entKey T X r).length ec, .slice ev (entVal T X r).length evc, .int .i64 0] _ _ HP41.out
        have p2 := setRow_keep13 Wn41 (Wd.heap.size) #[.slice ek (entKey T X r).length ec, .slice ev (entVal T X r).length evc, .int .i64 0]
        generalize Wn41.setRow (Wd.heap.size) #[.slice ek (entKey T X r).length ec, .slice ev (entVal T X r).length evc, .int .i64 0] = Wn42 at *
        have HBW : Hid (Below w6.heap.size w6 Wn42) := hid (hHeld.out.trans (p2.below hHeld.out.size (fun q e => by have e9 : q = Wd.heap.size := e; have y0 := HSZ29.out; have y1 := HSZ39.out; have y2 := HSZ40.out; have y3 := HSZ41.out; have y99 := HLOP.out; omega)))
        have HKE142 := hid (own_keep HKE141.out p2 (fun q hq e => by have e9 : q = Wd.heap.size := e; have z1 := (HKE141.out.lt q hq).1; have z2 := HUE140.out.1 q hq; have y0 := HSZ29.out; have y1 := HSZ39.out; have y2 := HSZ40.out; have y3 := HSZ41.out; omega))
        have HVE142 := hid (own_keep HVE141.out p2 (fun q hq e => by have e9 : q = Wd.heap.size := e; have z1 := (HVE141.out.lt q hq).1; have z2 := HUE140.out.2 q hq; have y0 := HSZ29.out; have y1 := HSZ39.out; have y2 := HSZ40.out; have y3 := HSZ41.out; omega))
        have HKE242 := hid (own_keep HKE241.out p2 (fun q hq e => by have e9 : q = Wd.heap.size := e; have z1 := (HKE241.out.lt q hq).1; have z2 := HUE241.out.1 q hq; have y0 := HSZ29.out; have y1 := HSZ39.out; have y2 := HSZ40.out; have y3 := HSZ41.out; omega))
        have HVE242 := hid (own_keep HVE241.out p2 (fun q hq e => by have e9 : q = Wd.heap.size := e; have z1 := (HVE241.out.lt q hq).1; have z2 := HUE241.out.2 q hq; have y0 := HSZ29.out; have y1 := HSZ39.out; have y2 := HSZ40.out; have y3 := HSZ41.out; omega))
        have HQ42 := hid ((p2.block _ (lt_of_block HQ41.out) (fun e => by have e9 : Wn29.heap.size = Wd.heap.size := e; have y0 := HSZ29.out; have y1 := HSZ39.out; have y2 := HSZ40.out; have y3 := HSZ41.out; omega)).trans HQ41.out)
        have HP42 := hid p1
        have HSZ42 := hid p2.size
        clear p1 p2 hHeld
        refine hK.out _ _ HBW (fun hHeld => ?_)
        clear hK K HBW
        try simp only [Act.put, jA, jB, jC, jD, jE, jF]
        refine rdH 11 (by kernel_rfl) rfl fun K hK => ?_
        rw [if_pos (by rfl)]
        refine Go.wp_store_row _ _ _ rfl (Wn29.heap.size) #[.slice fk (entKey T X s).length fc, .slice fv (entVal T X s).length fvc, .int .i64 0] rfl rfl _ _ HQ42.out (by kernel_rfl) rfl (by simp [Value.oneCell']) ?_
        have p1 := setRow_heap Wn42 (Wn29.heap.size) _ #[.slice fk (entKey T X s).length fc, .slice fv (entVal T X s).length fvc, .int .i64 0] _ _ HQ42.out
        have p2 := setRow_keep13 Wn42 (Wn29.heap.size) #[.slice fk (entKey T X s).length fc, .slice fv (entVal T X s).length fvc, .int .i64 0]
        generalize Wn42.setRow (Wn29.heap.size) #[.slice fk (entKey T X s).length fc, .slice fv (entVal T X s).length fvc, .int .i64 0] = Wn43 at *
        have HBW : Hid (Below w6.heap.size w6 Wn43) := hid (hHeld.out.trans (p2.below hHeld.out.size (fun q e => by have e9 : q = Wn29.heap.size := e; have y0 := HSZ29.out; have y1 := HSZ39.out; have y2 := HSZ40.out; have y3 := HSZ41.out; have y4 := HSZ42.out; have y99 := HLOQ.out; omega)))
        have HKE143 := hid (own_keep HKE142.out p2 (fun q hq e => by have e9 : q = Wn29.heap.size := e; have z1 := (HKE142.out.lt q hq).1; have z2 := HUE140.out.1 q hq; have y0 := HSZ29.out; have y1 := HSZ39.out; have y2 := HSZ40.out; have y3 := HSZ41.out; have y4 := HSZ42.out; omega))
        have HVE143 := hid (own_keep HVE142.out p2 (fun q hq e => by have e9 : q = Wn29.heap.size := e; have z1 := (HVE142.out.lt q hq).1; have z2 := HUE140.out.2 q hq; have y0 := HSZ29.out; have y1 := HSZ39.out; have y2 := HSZ40.out; have y3 := HSZ41.out; have y4 := HSZ42.out; omega))
        have HKE243 := hid (own_keep HKE242.out p2 (fun q hq e => by have e9 : q = Wn29.heap.size := e; have z1 := (HKE242.out.lt q hq).1; have z2 := HUE241.out.1 q hq; have y0 := HSZ29.out; have y1 := HSZ39.out; have y2 := HSZ40.out; have y3 := HSZ41.out; have y4 := HSZ42.out; omega))
        have HVE243 := hid (own_keep HVE242.out p2 (fun q hq e => by have e9 : q = Wn29.heap.size := e; have z1 := (HVE242.out.lt q hq).1; have z2 := HUE241.out.2 q hq; have y0 := HSZ29.out; have y1 := HSZ39.out; have y2 := HSZ40.out; have y3 := HSZ41.out; have y4 := HSZ42.out; omega))
        have HP43 := hid ((p2.block _ (lt_of_block HP42.out) (fun e => by have e9 : Wd.heap.size = Wn29.heap.size := e; have y0 := HSZ29.out; have y1 := HSZ39.out; have y2 := HSZ40.out; have y3 := HSZ41.out; have y4 := HSZ42.out; omega)).trans HP42.out)
        have HQ43 := hid p1
        have HSZ43 := hid p2.size
        clear p1 p2 hHeld
        refine hK.out _ _ HBW (fun hHeld => ?_)
        clear hK K HBW
        try simp only [Act.put, jA, jB, jC, jD, jE, jF]
        have HBF := hHeld
        refine wpAnyH_done (by kernel_rfl) (NoPanic.normal ?_) _
        clear hHeld
        go_wp2_with fail
        go_meet
        exact ⟨_, _, ek, ec, ev, evc, fk, fc, fv, fvc, rfl, rfl, HP43, HQ43, hid (Rd.own HKE143.out), hid (Rd.own HVE143.out), hid (Rd.own HKE243.out), HBF⟩
    · intro K hK
      go_simp
      have hza := heap_alloc_new Wd (.cells #[.slice none 0 0, .slice none 0 0, .int .i64 0] 34)
      have hsa : (Wd.alloc (.cells #[.slice none 0 0, .slice none 0 0, .int .i64 0] 34)).heap.size = Wd.heap.size + 1 := by simp
      have hba := (Below.refl Wd.heap.size Wd).alloc (Nat.le_refl _) (.cells #[.slice none 0 0, .slice none 0 0, .int .i64 0] 34)
      refine hK.out _ _ (hid (hHeld.out.alloc hHeld.out.size (.cells #[.slice none 0 0, .slice none 0 0, .int .i64 0] 34))) (fun hHeld2 => ?_)
      clear hK K
      try simp only [Act.put, jA, jB, jC, jD, jE, jF]
      generalize Wd.alloc (.cells #[.slice none 0 0, .slice none 0 0, .int .i64 0] 34) = Wn44 at *
      clear hHeld
      have hHeld := hHeld2
      have HQ44 := hid hza
      have HSZ44 := hid hsa
      clear hHeld2 hza hsa hba
      have HLOQ : Hid (w6.heap.size ≤ Wd.heap.size) := hid (by have y0 := HSZ44.out; have y98 := HWD.out; omega)
      refine wpAnyH_ready (rs := [3, 8]) (by kernel_rfl) (by simp) (AllReadyH.cons rfl ?_ (AllReadyH.cons rfl ?_ AllReadyH.nil))
      · intro K hK
        go_simp
        have CQ := hid (entry_ok (HT2.out.old (below_step HCw6.out hHeld.out)) (HX2.out.old (below_step HCw6.out hHeld.out)) HTI.out (HR2.out.old (below_step HCw6.out hHeld.out)) HRR.out)
        go_wp2_with (first | (go_at_call 8; refine CQ.out.mono ?_; rintro en Wn45 ⟨vk9, vv9, rfl, hp9, hbE⟩; have HBE := hid (below_step hHeld.out hbE); have HSZ45 := hid hbE.size; obtain ⟨ek, ec, rfl, -⟩ := zown_rd hp9.1; obtain ⟨ev, evc, rfl, -⟩ := zown_rd hp9.2; have HKE145 := hid hp9.1; have HVE145 := hid hp9.2; have HUE145 : Hid ((∀ q, (Value.slice ek (entKey T X r).length ec).ownBlock = some q → q < Wn45.heap.size) ∧ (∀ q, (Value.slice ev (entVal T X r).length evc).ownBlock = some q → q < Wn45.heap.size)) := hid ⟨fun q hq => (hp9.1.lt q hq).2, fun q hq => (hp9.2.lt q hq).2⟩; have HQ45 := hid ((hbE.block _ (lt_of_block HQ44.out)).trans HQ44.out); clear hp9 hbE))
        clear CQ hHeld
        refine hK.out _ _ HBE (fun hHeld => ?_)
        clear hK K HBE
        try simp only [Act.put, jA, jB, jC, jD, jE, jF]
        refine wpAnyH_ready (rs := [7, 8]) (by kernel_rfl) (by simp) (AllReadyH.cons rfl ?_ (AllReadyH.cons rfl ?_ AllReadyH.nil))
        · intro K hK
          go_simp
          have CQ := hid (entry_ok (HT2.out.old (below_step HCw6.out hHeld.out)) (HX2.out.old (below_step HCw6.out hHeld.out)) HTI.out (HS2.out.old (below_step HCw6.out hHeld.out)) HSS.out)
          go_wp2_with (first | (go_at_call 8; refine CQ.out.mono ?_; rintro en Wn46 ⟨vk9, vv9, rfl, hp9, hbE⟩; have HBE := hid (below_step hHeld.out hbE); have HSZ46 := hid hbE.size; obtain ⟨fk, fc, rfl, -⟩ := zown_rd hp9.1; obtain ⟨fv, fvc, rfl, -⟩ := zown_rd hp9.2; have HKE246 := hid hp9.1; have HVE246 := hid hp9.2; have HUE246 : Hid ((∀ q, (Value.slice fk (entKey T X s).length fc).ownBlock = some q → q < Wn46.heap.size) ∧ (∀ q, (Value.slice fv (entVal T X s).length fvc).ownBlock = some q → q < Wn46.heap.size)) := hid ⟨fun q hq => (hp9.1.lt q hq).2, fun q hq => (hp9.2.lt q hq).2⟩; have HKE146 := hid (own_old HKE145.out hbE); have HVE146 := hid (own_old HVE145.out hbE); have HQ46 := hid ((hbE.block _ (lt_of_block HQ45.out)).trans HQ45.out); clear hp9 hbE))
          clear CQ hHeld
          refine hK.out _ _ HBE (fun hHeld => ?_)
          clear hK K HBE
          try simp only [Act.put, jA, jB, jC, jD, jE, jF]
          refine rdH 8 (by kernel_rfl) rfl fun K hK => ?_
          go_simp
          have hza := heap_alloc_new Wn46 (.cells #[.slice none 0 0, .slice none 0 0, .int .i64 0] 34)
          have hsa : (Wn46.alloc (.cells #[.slice none 0 0, .slice none 0 0, .int .i64 0] 34)).heap.size = Wn46.heap.size + 1 := by simp
          have hba := (Below.refl Wn46.heap.size Wn46).alloc (Nat.le_refl _) (.cells #[.slice none 0 0, .slice none 0 0, .int .i64 0] 34)
          refine hK.out _ _ (hid (hHeld.out.alloc hHeld.out.size (.cells #[.slice none 0 0, .slice none 0 0, .int .i64 0] 34))) (fun hHeld2 => ?_)
          clear hK K
          try simp only [Act.put, jA, jB, jC, jD, jE, jF]
          have HKE147 := hid (own_old HKE146.out hba)
          have HVE147 := hid (own_old HVE146.out hba)
          have HKE247 := hid (own_old HKE246.out hba)
          have HVE247 := hid (own_old HVE246.out hba)
          have HQ47 := hid ((hba.block _ (lt_of_block HQ46.out)).trans HQ46.out)
          generalize Wn46.alloc (.cells #[.slice none 0 0, .slice none 0 0, .int .i64 0] 34) = Wn47 at *
          clear hHeld
          have hHeld := hHeld2
          have HP47 := hid hza
          have HSZ47 := hid hsa
          clear hHeld2 hza hsa hba
          have HLOP : Hid (w6.heap.size ≤ Wn46.heap.size) := hid (by have y0 := HSZ44.out; have y1 := HSZ45.out; have y2 := HSZ46.out; have y3 := HSZ47.out; have y98 := HWD.out; omega)
          refine rdH 10 (by kernel_rfl) rfl fun K hK => ?_
          rw [if_pos (by rfl)]
          refine Go.wp_store_row _ _ _ rfl (Wn46.heap.size) #[.slice ek (entKey T X r).length ec, .slice ev (entVal T X r).length evc, .int .i64 0] rfl rfl _ _ HP47.out (by kernel_rfl) rfl (by simp [Value.oneCell']) ?_
          have p1 := setRow_heap Wn47 (Wn46.heap.size) _ #[.slice ek (entKey T X r).length ec, .slice ev (entVal T X r).length evc, .int .i64 0] _ _ HP47.out
          have p2 := setRow_keep13 Wn47 (Wn46.heap.size) #[.slice ek (entKey T X r).length ec, .slice ev (entVal T X r).length evc, .int .i64 0]
          generalize Wn47.setRow (Wn46.heap.size) #[.slice ek (entKey T X r).length ec, .slice ev (entVal T X r).length evc, .int .i64 0] = Wn48 at *
          have HBW : Hid (Below w6.heap.size w6 Wn48) := hid (hHeld.out.trans (p2.below hHeld.out.size (fun q e => by have e9 : q = Wn46.heap.size := e; have y0 := HSZ44.out; have y1 := HSZ45.out; have y2 := HSZ46.out; have y3 := HSZ47.out; have y99 := HLOP.out; omega)))
          have HKE148 := hid (own_keep HKE147.out p2 (fun q hq e => by have e9 : q = Wn46.heap.size := e; have z1 := (HKE147.out.lt q hq).1; have z2 := HUE145.out.1 q hq; have y0 := HSZ44.out; have y1 := HSZ45.out; have y2 := HSZ46.out; have y3 := HSZ47.out; omega))
          have HVE148 := hid (own_keep HVE147.out p2 (fun q hq e => by have e9 : q = Wn46.heap.size := e; have z1 := (HVE147.out.lt q hq).1; have z2 := HUE145.out.2 q hq; have y0 := HSZ44.out; have y1 := HSZ45.out; have y2 := HSZ46.out; have y3 := HSZ47.out; omega))
          have HKE248 := hid (own_keep HKE247.out p2 (fun q hq e => by have e9 : q = Wn46.heap.size := e; have z1 := (HKE247.out.lt q hq).1; have z2 := HUE246.out.1 q hq; have y0 := HSZ44.out; have y1 := HSZ45.out; have y2 := HSZ46.out; have y3 := HSZ47.out; omega))
          have HVE248 := hid (own_keep HVE247.out p2 (fun q hq e => by have e9 : q = Wn46.heap.size := e; have z1 := (HVE247.out.lt q hq).1; have z2 := HUE246.out.2 q hq; have y0 := HSZ44.out; have y1 := HSZ45.out; have y2 := HSZ46.out; have y3 := HSZ47.out; omega))
          have HQ48 := hid ((p2.block _ (lt_of_block HQ47.out) (fun e => by have e9 : Wd.heap.size = Wn46.heap.size := e; have y0 := HSZ44.out; have y1 := HSZ45.out; have y2 := HSZ46.out; have y3 := HSZ47.out; omega)).trans HQ47.out)
          have HP48 := hid p1
          have HSZ48 := hid p2.size
          clear p1 p2 hHeld
          refine hK.out _ _ HBW (fun hHeld => ?_)
          clear hK K HBW
          try simp only [Act.put, jA, jB, jC, jD, jE, jF]
          refine rdH 11 (by kernel_rfl) rfl fun K hK => ?_
          rw [if_pos (by rfl)]
          refine Go.wp_store_row _ _ _ rfl (Wd.heap.size) #[.slice fk (entKey T X s).length fc, .slice fv (entVal T X s).length fvc, .int .i64 0] rfl rfl _ _ HQ48.out (by kernel_rfl) rfl (by simp [Value.oneCell']) ?_
          have p1 := setRow_heap Wn48 (Wd.heap.size) _ #[.slice fk (entKey T X s).length fc, .slice fv (entVal T X s).length fvc, .int .i64 0] _ _ HQ48.out
          have p2 := setRow_keep13 Wn48 (Wd.heap.size) #[.slice fk (entKey T X s).length fc, .slice fv (entVal T X s).length fvc, .int .i64 0]
          generalize Wn48.setRow (Wd.heap.size) #[.slice fk (entKey T X s).length fc, .slice fv (entVal T X s).length fvc, .int .i64 0] = Wn49 at *
          have HBW : Hid (Below w6.heap.size w6 Wn49) := hid (hHeld.out.trans (p2.below hHeld.out.size (fun q e => by have e9 : q = Wd.heap.size := e; have y0 := HSZ44.out; have y1 := HSZ45.out; have y2 := HSZ46.out; have y3 := HSZ47.out; have y4 := HSZ48.out; have y99 := HLOQ.out; omega)))
          have HKE149 := hid (own_keep HKE148.out p2 (fun q hq e => by have e9 : q = Wd.heap.size := e; have z1 := (HKE148.out.lt q hq).1; have z2 := HUE145.out.1 q hq; have y0 := HSZ44.out; have y1 := HSZ45.out; have y2 := HSZ46.out; have y3 := HSZ47.out; have y4 := HSZ48.out; omega))
          have HVE149 := hid (own_keep HVE148.out p2 (fun q hq e => by have e9 : q = Wd.heap.size := e; have z1 := (HVE148.out.lt q hq).1; have z2 := HUE145.out.2 q hq; have y0 := HSZ44.out; have y1 := HSZ45.out; have y2 := HSZ46.out; have y3 := HSZ47.out; have y4 := HSZ48.out; omega))
          have HKE249 := hid (own_keep HKE248.out p2 (fun q hq e => by have e9 : q = Wd.heap.size := e; have z1 := (HKE248.out.lt q hq).1; have z2 := HUE246.out.1 q hq; have y0 := HSZ44.out; have y1 := HSZ45.out; have y2 := HSZ46.out; have y3 := HSZ47.out; have y4 := HSZ48.out; omega))
          have HVE249 := hid (own_keep HVE248.out p2 (fun q hq e => by have e9 : q = Wd.heap.size := e; have z1 := (HVE248.out.lt q hq).1; have z2 := HUE246.out.2 q hq; have y0 := HSZ44.out; have y1 := HSZ45.out; have y2 := HSZ46.out; have y3 := HSZ47.out; have y4 := HSZ48.out; omega))
          have HP49 := hid ((p2.block _ (lt_of_block HP48.out) (fun e => by have e9 : Wn46.heap.size = Wd.heap.size := e; have y0 := HSZ44.out; have y1 := HSZ45.out; have y2 := HSZ46.out; have y3 := HSZ47.out; have y4 := HSZ48.out; omega)).trans HP48.out)
          have HQ49 := hid p1
          have HSZ49 := hid p2.size
          clear p1 p2 hHeld
          refine hK.out _ _ HBW (fun hHeld => ?_)
          clear hK K HBW
          try simp only [Act.put, jA, jB, jC, jD, jE, jF]
          have HBF := hHeld
          refine wpAnyH_done (by kernel_rfl) (NoPanic.normal ?_) _
          clear hHeld
          go_wp2_with fail
          go_meet
          exact ⟨_, _, ek, ec, ev, evc, fk, fc, fv, fvc, rfl, rfl, HP49, HQ49, hid (Rd.own HKE149.out), hid (Rd.own HVE149.out), hid (Rd.own HKE249.out), HBF⟩
        · intro K hK
          go_simp
          have hza := heap_alloc_new Wn45 (.cells #[.slice none 0 0, .slice none 0 0, .int .i64 0] 34)
          have hsa : (Wn45.alloc (.cells #[.slice none 0 0, .slice none 0 0, .int .i64 0] 34)).heap.size = Wn45.heap.size + 1 := by simp
          have hba := (Below.refl Wn45.heap.size Wn45).alloc (Nat.le_refl _) (.cells #[.slice none 0 0, .slice none 0 0, .int .i64 0] 34)
          refine hK.out _ _ (hid (hHeld.out.alloc hHeld.out.size (.cells #[.slice none 0 0, .slice none 0 0, .int .i64 0] 34))) (fun hHeld2 => ?_)
          clear hK K
          try simp only [Act.put, jA, jB, jC, jD, jE, jF]
          have HKE150 := hid (own_old HKE145.out hba)
          have HVE150 := hid (own_old HVE145.out hba)
          have HQ50 := hid ((hba.block _ (lt_of_block HQ45.out)).trans HQ45.out)
          generalize Wn45.alloc (.cells #[.slice none 0 0, .slice none 0 0, .int .i64 0] 34) = Wn50 at *
          clear hHeld
          have hHeld := hHeld2
          have HP50 := hid hza
          have HSZ50 := hid hsa
          clear hHeld2 hza hsa hba
          have HLOP : Hid (w6.heap.size ≤ Wn45.heap.size) := hid (by have y0 := HSZ44.out; have y1 := HSZ45.out; have y2 := HSZ50.out; have y98 := HWD.out; omega)
          refine rdH 7 (by kernel_rfl) rfl fun K hK => ?_
          go_simp
          have CQ := hid (entry_ok (HT2.out.old (below_step HCw6.out hHeld.out)) (HX2.out.old (below_step HCw6.out hHeld.out)) HTI.out (HS2.out.old (below_step HCw6.out hHeld.out)) HSS.out)
          go_wp2_with (first | (go_at_call 8; refine CQ.out.mono ?_; rintro en Wn51 ⟨vk9, vv9, rfl, hp9, hbE⟩; have HBE := hid (below_step hHeld.out hbE); have HSZ51 := hid hbE.size; obtain ⟨fk, fc, rfl, -⟩ := zown_rd hp9.1; obtain ⟨fv, fvc, rfl, -⟩ := zown_rd hp9.2; have HKE251 := hid hp9.1; have HVE251 := hid hp9.2; have HUE251 : Hid ((∀ q, (Value.slice fk (entKey T X s).length fc).ownBlock = some q → q < Wn51.heap.size) ∧ (∀ q, (Value.slice fv (entVal T X s).length fvc).ownBlock = some q → q < Wn51.heap.size)) := hid ⟨fun q hq => (hp9.1.lt q hq).2, fun q hq => (hp9.2.lt q hq).2⟩; have HKE151 := hid (own_old HKE150.out hbE); have HVE151 := hid (own_old HVE150.out hbE); have HP51 := hid ((hbE.block _ (lt_of_block HP50.out)).trans HP50.out); have HQ51 := hid ((hbE.block _ (lt_of_block HQ50.out)).trans HQ50.out); clear hp9 hbE))
          clear CQ hHeld
          refine hK.out _ _ HBE (fun hHeld => ?_)
          clear hK K HBE
          try simp only [Act.put, jA, jB, jC, jD, jE, jF]
          refine rdH 10 (by kernel_rfl) rfl fun K hK => ?_
          rw [if_pos (by rfl)]
          refine Go.wp_store_row _ _ _ rfl (Wn45.heap.size) #[.slice ek (entKey T X r).length ec, .slice ev (entVal T X r).length evc, .int .i64 0] rfl rfl _ _ HP51.out (by kernel_rfl) rfl (by simp [Value.oneCell']) ?_
          have p1 := setRow_heap Wn51 (Wn45.heap.size) _ #[.slice ek (entKey T X r).length ec, .slice ev (entVal T X r).length evc, .int .i64 0] _ _ HP51.out
          have p2 := setRow_keep13 Wn51 (Wn45.heap.size) #[.slice ek (entKey T X r).length ec, .slice ev (entVal T X r).length evc, .int .i64 0]
          generalize Wn51.setRow (Wn45.heap.size) #[.slice ek (entKey T X r).length ec, .slice ev (entVal T X r).length evc, .int .i64 0] = Wn52 at *
          have HBW : Hid (Below w6.heap.size w6 Wn52) := hid (hHeld.out.trans (p2.below hHeld.out.size (fun q e => by have e9 : q = Wn45.heap.size := e; have y0 := HSZ44.out; have y1 := HSZ45.out; have y2 := HSZ50.out; have y3 := HSZ51.out; have y99 := HLOP.out; omega)))
          have HKE152 := hid (own_keep HKE151.out p2 (fun q hq e => by have e9 : q = Wn45.heap.size := e; have z1 := (HKE151.out.lt q hq).1; have z2 := HUE145.out.1 q hq; have y0 := HSZ44.out; have y1 := HSZ45.out; have y2 := HSZ50.out; have y3 := HSZ51.out; omega))
          have HVE152 := hid (own_keep HVE151.out p2 (fun q hq e => by have e9 : q = Wn45.heap.size := e; have z1 := (HVE151.out.lt q hq).1; have z2 := HUE145.out.2 q hq; have y0 := HSZ44.out; have y1 := HSZ45.out; have y2 := HSZ50.out; have y3 := HSZ51.out; omega))
          have HKE252 := hid (own_keep HKE251.out p2 (fun q hq e => by have e9 : q = Wn45.heap.size := e; have z1 := (HKE251.out.lt q hq).1; have z2 := HUE251.out.1 q hq; have y0 := HSZ44.out; have y1 := HSZ45.out; have y2 := HSZ50.out; have y3 := HSZ51.out; omega))
          have HVE252 := hid (own_keep HVE251.out p2 (fun q hq e => by have e9 : q = Wn45.heap.size := e; have z1 := (HVE251.out.lt q hq).1; have z2 := HUE251.out.2 q hq; have y0 := HSZ44.out; have y1 := HSZ45.out; have y2 := HSZ50.out; have y3 := HSZ51.out; omega))
          have HQ52 := hid ((p2.block _ (lt_of_block HQ51.out) (fun e => by have e9 : Wd.heap.size = Wn45.heap.size := e; have y0 := HSZ44.out; have y1 := HSZ45.out; have y2 := HSZ50.out; have y3 := HSZ51.out; omega)).trans HQ51.out)
          have HP52 := hid p1
          have HSZ52 := hid p2.size
          clear p1 p2 hHeld
          refine hK.out _ _ HBW (fun hHeld => ?_)
          clear hK K HBW
          try simp only [Act.put, jA, jB, jC, jD, jE, jF]
          refine rdH 11 (by kernel_rfl) rfl fun K hK => ?_
          rw [if_pos (by rfl)]
          refine Go.wp_store_row _ _ _ rfl (Wd.heap.size) #[.slice fk (entKey T X s).length fc, .slice fv (entVal T X s).length fvc, .int .i64 0] rfl rfl _ _ HQ52.out (by kernel_rfl) rfl (by simp [Value.oneCell']) ?_
          have p1 := setRow_heap Wn52 (Wd.heap.size) _ #[.slice fk (entKey T X s).length fc, .slice fv (entVal T X s).length fvc, .int .i64 0] _ _ HQ52.out
          have p2 := setRow_keep13 Wn52 (Wd.heap.size) #[.slice fk (entKey T X s).length fc, .slice fv (entVal T X s).length fvc, .int .i64 0]
          generalize Wn52.setRow (Wd.heap.size) #[.slice fk (entKey T X s).length fc, .slice fv (entVal T X s).length fvc, .int .i64 0] = Wn53 at *
          have HBW : Hid (Below w6.heap.size w6 Wn53) := hid (hHeld.out.trans (p2.below hHeld.out.size (fun q e => by have e9 : q = Wd.heap.size := e; have y0 := HSZ44.out; have y1 := HSZ45.out; have y2 := HSZ50.out; have y3 := HSZ51.out; have y4 := HSZ52.out; have y99 := HLOQ.out; omega)))
          have HKE153 := hid (own_keep HKE152.out p2 (fun q hq e => by have e9 : q = Wd.heap.size := e; have z1 := (HKE152.out.lt q hq).1; have z2 := HUE145.out.1 q hq; have y0 := HSZ44.out; have y1 := HSZ45.out; have y2 := HSZ50.out; have y3 := HSZ51.out; have y4 := HSZ52.out; omega))
          have HVE153 := hid (own_keep HVE152.out p2 (fun q hq e => by have e9 : q = Wd.heap.size := e; have z1 := (HVE152.out.lt q hq).1; have z2 := HUE145.out.2 q hq; have y0 := HSZ44.out; have y1 := HSZ45.out; have y2 := HSZ50.out; have y3 := HSZ51.out; have y4 := HSZ52.out; omega))
          have HKE253 := hid (own_keep HKE252.out p2 (fun q hq e => by have e9 : q = Wd.heap.size := e; have z1 := (HKE252.out.lt q hq).1; have z2 := HUE251.out.1 q hq; have y0 := HSZ44.out; have y1 := HSZ45.out; have y2 := HSZ50.out; have y3 := HSZ51.out; have y4 := HSZ52.out; omega))
          have HVE253 := hid (own_keep HVE252.out p2 (fun q hq e => by have e9 : q = Wd.heap.size := e; have z1 := (HVE252.out.lt q hq).1; have z2 := HUE251.out.2 q hq; have y0 := HSZ44.out; have y1 := HSZ45.out; have y2 := HSZ50.out; have y3 := HSZ51.out; have y4 := HSZ52.out; omega))
          have HP53 := hid ((p2.block _ (lt_of_block HP52.out) (fun e => by have e9 : Wn45.heap.size = Wd.heap.size := e; have y0 := HSZ44.out; have y1 := HSZ45.out; have y2 := HSZ50.out; have y3 := HSZ51.out; have y4 := HSZ52.out; omega)).trans HP52.out)
          have HQ53 := hid p1
          have HSZ53 := hid p2.size
          clear p1 p2 hHeld
          refine hK.out _ _ HBW (fun hHeld => ?_)
          clear hK K HBW
          try simp only [Act.put, jA, jB, jC, jD, jE, jF]
          have HBF := hHeld
          refine wpAnyH_done (by kernel_rfl) (NoPanic.normal ?_) _
          clear hHeld
          go_wp2_with fail
          go_meet
          exact ⟨_, _, ek, ec, ev, evc, fk, fc, fv, fvc, rfl, rfl, HP53, HQ53, hid (Rd.own HKE153.out), hid (Rd.own HVE153.out), hid (Rd.own HKE253.out), HBF⟩
      · intro K hK
        go_simp
        have hza := heap_alloc_new Wn44 (.cells #[.slice none 0 0, .slice none 0 0, .int .i64 0] 34)
        have hsa : (Wn44.alloc (.cells #[.slice none 0 0, .slice none 0 0, .int .i64 0] 34)).heap.size = Wn44.heap.size + 1 := by simp
        have hba := (Below.refl Wn44.heap.size Wn44).alloc (Nat.le_refl _) (.cells #[.slice none 0 0, .slice none 0 0, .int .i64 0] 34)
        refine hK.out _ _ (hid (hHeld.out.alloc hHeld.out.size (.cells #[.slice none 0 0, .slice none 0 0, .int .i64 0] 34))) (fun hHeld2 => ?_)
        clear hK K
        try simp only [Act.put, jA, jB, jC, jD, jE, jF]
        have HQ54 := hid ((hba.block _ (lt_of_block HQ44.out)).trans HQ44.out)
        generalize Wn44.alloc (.cells #[.slice none 0 0, .slice none 0 0, .int .i64 0] 34) = Wn54 at *
        clear hHeld
        have hHeld := hHeld2
        have HP54 := hid hza
        have HSZ54 := hid hsa
        clear hHeld2 hza hsa hba
        have HLOP : Hid (w6.heap.size ≤ Wn44.heap.size) := hid (by have y0 := HSZ44.out; have y1 := HSZ54.out; have y98 := HWD.out; omega)
        refine rdH 3 (by kernel_rfl) rfl fun K hK => ?_
        go_simp
        have CQ := hid (entry_ok (HT2.out.old (below_step HCw6.out hHeld.out)) (HX2.out.old (below_step HCw6.out hHeld.out)) HTI.out (HR2.out.old (below_step HCw6.out hHeld.out)) HRR.out)
        go_wp2_with (first | (go_at_call 8; refine CQ.out.mono ?_; rintro en Wn55 ⟨vk9, vv9, rfl, hp9, hbE⟩; have HBE := hid (below_step hHeld.out hbE); have HSZ55 := hid hbE.size; obtain ⟨ek, ec, rfl, -⟩ := zown_rd hp9.1; obtain ⟨ev, evc, rfl, -⟩ := zown_rd hp9.2; have HKE155 := hid hp9.1; have HVE155 := hid hp9.2; have HUE155 : Hid ((∀ q, (Value.slice ek (entKey T X r).length ec).ownBlock = some q → q < Wn55.heap.size) ∧ (∀ q, (Value.slice ev (entVal T X r).length evc).ownBlock = some q → q < Wn55.heap.size)) := hid ⟨fun q hq => (hp9.1.lt q hq).2, fun q hq => (hp9.2.lt q hq).2⟩; have HP55 := hid ((hbE.block _ (lt_of_block HP54.out)).trans HP54.out); have HQ55 := hid ((hbE.block _ (lt_of_block HQ54.out)).trans HQ54.out); clear hp9 hbE))
        clear CQ hHeld
        refine hK.out _ _ HBE (fun hHeld => ?_)
        clear hK K HBE
        try simp only [Act.put, jA, jB, jC, jD, jE, jF]
        refine rdH 7 (by kernel_rfl) rfl fun K hK => ?_
        go_simp
        have CQ := hid (entry_ok (HT2.out.old (below_step HCw6.out hHeld.out)) (HX2.out.old (below_step HCw6.out hHeld.out)) HTI.out (HS2.out.old (below_step HCw6.out hHeld.out)) HSS.out)
        go_wp2_with (first | (go_at_call 8; refine CQ.out.mono ?_; rintro en Wn56 ⟨vk9, vv9, rfl, hp9, hbE⟩; have HBE := hid (below_step hHeld.out hbE); have HSZ56 := hid hbE.size; obtain ⟨fk, fc, rfl, -⟩ := zown_rd hp9.1; obtain ⟨fv, fvc, rfl, -⟩ := zown_rd hp9.2; have HKE256 := hid hp9.1; have HVE256 := hid hp9.2; have HUE256 : Hid ((∀ q, (Value.slice fk (entKey T X s).length fc).ownBlock = some q → q < Wn56.heap.size) ∧ (∀ q, (Value.slice fv (entVal T X s).length fvc).ownBlock = some q → q < Wn56.heap.size)) := hid ⟨fun q hq => (hp9.1.lt q hq).2, fun q hq => (hp9.2.lt q hq).2⟩; have HKE156 := hid (own_old HKE155.out hbE); have HVE156 := hid (own_old HVE155.out hbE); have HP56 := hid ((hbE.block _ (lt_of_block HP55.out)).trans HP55.out); have HQ56 := hid ((hbE.block _ (lt_of_block HQ55.out)).trans HQ55.out); clear hp9 hbE))
        clear CQ hHeld
        refine hK.out _ _ HBE (fun hHeld => ?_)
        clear hK K HBE
        try simp only [Act.put, jA, jB, jC, jD, jE, jF]
        refine rdH 10 (by kernel_rfl) rfl fun K hK => ?_
        rw [if_pos (by rfl)]
        refine Go.wp_store_row _ _ _ rfl (Wn44.heap.size) #[.slice ek (entKey T X r).length ec, .slice ev (entVal T X r).length evc, .int .i64 0] rfl rfl _ _ HP56.out (by kernel_rfl) rfl (by simp [Value.oneCell']) ?_
        have p1 := setRow_heap Wn56 (Wn44.heap.size) _ #[.slice ek (entKey T X r).length ec, .slice ev (entVal T X r).length evc, .int .i64 0] _ _ HP56.out
        have p2 := setRow_keep13 Wn56 (Wn44.heap.size) #[.slice ek (entKey T X r).length ec, .slice ev (entVal T X r).length evc, .int .i64 0]
        generalize Wn56.setRow (Wn44.heap.size) #[.slice ek (entKey T X r).length ec, .slice ev (entVal T X r).length evc, .int .i64 0] = Wn57 at *
        have HBW : Hid (Below w6.heap.size w6 Wn57) := hid (hHeld.out.trans (p2.below hHeld.out.size (fun q e => by have e9 : q = Wn44.heap.size := e; have y0 := HSZ44.out; have y1 := HSZ54.out; have y2 := HSZ55.out; have y3 := HSZ56.out; have y99 := HLOP.out; omega)))
        have HKE157 := hid (own_keep HKE156.out p2 (fun q hq e => by have e9 : q = Wn44.heap.size := e; have z1 := (HKE156.out.lt q hq).1; have z2 := HUE155.out.1 q hq; have y0 := HSZ44.out; have y1 := HSZ54.out; have y2 := HSZ55.out; have y3 := HSZ56.out; omega))
        have HVE157 := hid (own_keep HVE156.out p2 (fun q hq e => by have e9 : q = Wn44.heap.size := e; have z1 := (HVE156.out.lt q hq).1; have z2 := HUE155.out.2 q hq; have y0 := HSZ44.out; have y1 := HSZ54.out; have y2 := HSZ55.out; have y3 := HSZ56.out; omega))
        have HKE257 := hid (own_keep HKE256.out p2 (fun q hq e => by have e9 : q = Wn44.heap.size := e; have z1 := (HKE256.out.lt q hq).1; have z2 := HUE256.out.1 q hq; have y0 := HSZ44.out; have y1 := HSZ54.out; have y2 := HSZ55.out; have y3 := HSZ56.out; omega))
        have HVE257 := hid (own_keep HVE256.out p2 (fun q hq e => by have e9 : q = Wn44.heap.size := e; have z1 := (HVE256.out.lt q hq).1; have z2 := HUE256.out.2 q hq; have y0 := HSZ44.out; have y1 := HSZ54.out; have y2 := HSZ55.out; have y3 := HSZ56.out; omega))
        have HQ57 := hid ((p2.block _ (lt_of_block HQ56.out) (fun e => by have e9 : Wd.heap.size = Wn44.heap.size := e; have y0 := HSZ44.out; have y1 := HSZ54.out; have y2 := HSZ55.out; have y3 := HSZ56.out; omega)).trans HQ56.out)
        have HP57 := hid p1
        have HSZ57 := hid p2.size
        clear p1 p2 hHeld
        refine hK.out _ _ HBW (fun hHeld => ?_)
        clear hK K HBW
        try simp only [Act.put, jA, jB, jC, jD, jE, jF]
        refine rdH 11 (by kernel_rfl) rfl fun K hK => ?_
        rw [if_pos (by rfl)]
        refine Go.wp_store_row _ _ _ rfl (Wd.heap.size) #[.slice fk (entKey T X s).length fc, .slice fv (entVal T X s).length fvc, .int .i64 0] rfl rfl _ _ HQ57.out (by kernel_rfl) rfl (by simp [Value.oneCell']) ?_
        have p1 := setRow_heap Wn57 (Wd.heap.size) _ #[.slice fk (entKey T X s).length fc, .slice fv (entVal T X s).length fvc, .int .i64 0] _ _ HQ57.out
        have p2 := setRow_keep13 Wn57 (Wd.heap.size) #[.slice fk (entKey T X s).length fc, .slice fv (entVal T X s).length fvc, .int .i64 0]
        generalize Wn57.setRow (Wd.heap.size) #[.slice fk (entKey T X s).length fc, .slice fv (entVal T X s).length fvc, .int .i64 0] = Wn58 at *
        have HBW : Hid (Below w6.heap.size w6 Wn58) := hid (hHeld.out.trans (p2.below hHeld.out.size (fun q e => by have e9 : q = Wd.heap.size := e; have y0 := HSZ44.out; have y1 := HSZ54.out; have y2 := HSZ55.out; have y3 := HSZ56.out; have y4 := HSZ57.out; have y99 := HLOQ.out; omega)))
        have HKE158 := hid (own_keep HKE157.out p2 (fun q hq e => by have e9 : q = Wd.heap.size := e; have z1 := (HKE157.out.lt q hq).1; have z2 := HUE155.out.1 q hq; have y0 := HSZ44.out; have y1 := HSZ54.out; have y2 := HSZ55.out; have y3 := HSZ56.out; have y4 := HSZ57.out; omega))
        have HVE158 := hid (own_keep HVE157.out p2 (fun q hq e => by have e9 : q = Wd.heap.size := e; have z1 := (HVE157.out.lt q hq).1; have z2 := HUE155.out.2 q hq; have y0 := HSZ44.out; have y1 := HSZ54.out; have y2 := HSZ55.out; have y3 := HSZ56.out; have y4 := HSZ57.out; omega))
        have HKE258 := hid (own_keep HKE257.out p2 (fun q hq e => by have e9 : q = Wd.heap.size := e; have z1 := (HKE257.out.lt q hq).1; have z2 := HUE256.out.1 q hq; have y0 := HSZ44.out; have y1 := HSZ54.out; have y2 := HSZ55.out; have y3 := HSZ56.out; have y4 := HSZ57.out; omega))
        have HVE258 := hid (own_keep HVE257.out p2 (fun q hq e => by have e9 : q = Wd.heap.size := e; have z1 := (HVE257.out.lt q hq).1; have z2 := HUE256.out.2 q hq; have y0 := HSZ44.out; have y1 := HSZ54.out; have y2 := HSZ55.out; have y3 := HSZ56.out; have y4 := HSZ57.out; omega))
        have HP58 := hid ((p2.block _ (lt_of_block HP57.out) (fun e => by have e9 : Wn44.heap.size = Wd.heap.size := e; have y0 := HSZ44.out; have y1 := HSZ54.out; have y2 := HSZ55.out; have y3 := HSZ56.out; have y4 := HSZ57.out; omega)).trans HP57.out)
        have HQ58 := hid p1
        have HSZ58 := hid p2.size
        clear p1 p2 hHeld
        refine hK.out _ _ HBW (fun hHeld => ?_)
        clear hK K HBW
        try simp only [Act.put, jA, jB, jC, jD, jE, jF]
        have HBF := hHeld
        refine wpAnyH_done (by kernel_rfl) (NoPanic.normal ?_) _
        clear hHeld
        go_wp2_with fail
        go_meet
        exact ⟨_, _, ek, ec, ev, evc, fk, fc, fv, fvc, rfl, rfl, HP58, HQ58, hid (Rd.own HKE158.out), hid (Rd.own HVE158.out), hid (Rd.own HKE258.out), HBF⟩
  case rest =>
  obtain ⟨gp, gq, ek, ec, ev, evc, fk, fc, fv, fvc, rfl, rfl, HP7, HQ7, HEK7, HEV7, HFK7, HB7⟩ := hcut
  generalize wc = w7 at *
  have HCw7 := hid (below_step HCw6.out HB7.out)
  obtain ⟨z0, z1, z2, z3, i0, i1, i2, i3, i4, i5, i6⟩ := HKT.out _ HCw7.out
  have p0 := cell_in HP7.out 0 _ rfl
  have p1 := cell_in HP7.out 1 _ rfl
  have p2 := cell_in HP7.out 2 _ rfl
  have CO := hid (owner_ok (HT2.out.old HCw7.out) (HX2.out.old HCw7.out) HTI.out HRR.out HEK7.out HEV7.out HKD.out)
  go_upto_region 5 with (first | (go_at_call 9; refine CO.out.mono ?_; rintro en w8 ⟨v8, rfl, hr8, hb8⟩; obtain ⟨a8, c8, rfl⟩ := zrd_form hr8; have HCw8 := hid (below_step HCw7.out hb8); have HN8 := hid hr8; have HP8 := hid ((hb8.block _ (lt_of_block HP7.out)).trans HP7.out); have HQ8 := hid ((hb8.block _ (lt_of_block HQ7.out)).trans HQ7.out); have HEK8 := hid (HEK7.out.old hb8); have HFK8 := hid (HFK7.out.old hb8); clear z0 z1 z2 z3 i0 i1 i2 i3 i4 i5 i6 p0 p1 p2 hb8 hr8 CO))
  clear HP7 HQ7 HEK7 HEV7 HFK7
  refine wp_region_noPanic ?_
  refine wp_region_held_drew (S := fun V => Hid (Below w8.heap.size w8 V)) (by kernel_rfl) (hid (Below.drew (Below.refl _ _))) (fun hHeld => ?_)
  generalize w8.drew = Wd at *
  refine tkH 0 (.agg #[.int .i64 T.id, .string ⟨T.name.toArray⟩, .slice a1 T.cols.length e1, .slice a3 T.key.length e3]) rfl (by kernel_rfl) (fun _ _ _ => False.elim) hHeld (Or.inl ⟨by rfl, fun W9 hW => by obtain ⟨q0, q1, q2, q3, q4, q5, q6, q7, q8, q9, q10⟩ := HKT.out _ (below_step HCw8.out hW.out); clear hHeld hW; simp only [jA, jB, jC]; go_simp⟩) ?_
  simp only [Act.put, jA, jB, jC, jD, jE, jF]
  refine tkH 1 (.agg #[.int .i64 T.id, .string ⟨T.name.toArray⟩, .slice a1 T.cols.length e1, .slice a3 T.key.length e3]) rfl (by kernel_rfl) (fun _ _ _ => False.elim) hHeld (Or.inl ⟨by rfl, fun W9 hW => by obtain ⟨q0, q1, q2, q3, q4, q5, q6, q7, q8, q9, q10⟩ := HKT.out _ (below_step HCw8.out hW.out); clear hHeld hW; simp only [jA, jB, jC]; go_simp⟩) ?_
  simp only [Act.put, jA, jB, jC, jD, jE, jF]
  refine tkH 2 (.slice b2 r.length c2) rfl (by kernel_rfl) (fun _ _ _ => False.elim) hHeld (Or.inl ⟨by rfl, fun W9 hW => by clear hHeld hW; simp only [jA, jB, jC]; go_simp⟩) ?_
  simp only [Act.put, jA, jB, jC, jD, jE, jF]
  refine rdH 3 (by kernel_rfl) rfl fun K hK => ?_
  go_simp
  have CQ := hid (zkey_ok (HT2.out.old (below_step HCw8.out hHeld.out)) HTI.out.key (by have := HTI.out.keyl; omega) (HR2.out.old (below_step HCw8.out hHeld.out)) HRR.out.ok)
  go_wp2_with (first | (go_at_call 11; refine CQ.out.mono ?_; rintro en wA ⟨ka, kc, rfl, hvE, hbE⟩; have HBE := hid (below_step hHeld.out hbE); have HVA := hid hvE; clear hvE; have HXA := hid HBE.out; clear hbE; have HCwA := hid (below_step HCw8.out HBE.out)))
  clear CQ hHeld
  refine hK.out _ _ HBE (fun hHeld => ?_)
  clear hK K
  try simp only [Act.put, jA, jB, jC, jD, jE, jF]
  refine wpAnyH_low (S' := fun V => Hid (Below wA.heap.size wA V)) (fun V hV => hid (below_step HBE.out hV.out)) _ _ _ _ ?_
  clear hHeld HBE
  have hHeld : Hid (Below wA.heap.size wA wA) := hid (Below.refl _ _)
  refine rdH 4 (by kernel_rfl) rfl fun K hK => ?_
  go_simp
  have CQ := hid (name_ok (HT2.out.old (below_step HCwA.out hHeld.out)) HTI.out.tid HTI.out.key (by have := HTI.out.keyl; omega) (HVA.out.old hHeld.out) HOA.out.inn HKA.out)
  go_wp2_with (first | (go_at_call 10; refine CQ.out.mono ?_; rintro en w9 ⟨v2, rfl, hoE, hbE⟩; have HBE := hid (below_step hHeld.out hbE); obtain ⟨na, nc, rfl, hrE⟩ := zown_rd hoE; have HRN := hid hrE; have HX9 := hid (below_step HXA.out (below_step hHeld.out hbE)); clear hoE hrE hbE; have HCw9 := hid (below_step HCwA.out HBE.out)))
  clear CQ hHeld
  refine hK.out _ _ HBE (fun hHeld => ?_)
  clear hK K
  try simp only [Act.put, jA, jB, jC, jD, jE, jF]
  refine wpAnyH_low (S' := fun V => Hid (Below w9.heap.size w9 V)) (fun V hV => hid (below_step HBE.out hV.out)) _ _ _ _ ?_
  clear hHeld HBE
  have hHeld : Hid (Below w9.heap.size w9 w9) := hid (Below.refl _ _)
  refine tkH 5 (.slice na (nameL T (pickL r T.key)).length nc) rfl (by kernel_rfl) (fun _ _ _ => False.elim) hHeld (Or.inl ⟨by rfl, fun W9 hW => by clear hHeld hW; simp only [jA, jB, jC]; go_simp⟩) ?_
  simp only [Act.put, jA, jB, jC, jD, jE, jF]
  refine wpAnyH_done (by kernel_rfl) (NoPanic.normal ?_) _
  clear hHeld
  have HN9 := hid (HN8.out.old HX9.out)
  have HP9 := hid ((HX9.out.block _ (lt_of_block HP8.out)).trans HP8.out)
  have HQ9 := hid ((HX9.out.block _ (lt_of_block HQ8.out)).trans HQ8.out)
  have HEK9 := hid (HEK8.out.old HX9.out)
  have HFK9 := hid (HFK8.out.old HX9.out)
  clear HN8 HP8 HQ8 HEK8 HFK8 HVA HXA
  have CB1 := hid (zbytes_any w9 HN9.out HRN.out)
  rw [beq_self_eq_true] at CB1
  have CP := hid (zpair_ok (X := X) (HT2.out.old HCw9.out) HTI.out HKD.out.2.2 (HR2.out.old HCw9.out) HRR.out)
  obtain ⟨z0, z1, z2, z3, i0, i1, i2, i3, i4, i5, i6⟩ := HKT.out _ HCw9.out
  go_upto_region 6 with fail
  go_upto_region 8 with (first
    | (go_at_call 12; refine CB1.out.mono ?_; rintro en w10 ⟨rfl, hw10⟩; subst hw10; clear CB1)
    | (go_at_call 13; refine CP.out.mono ?_; rintro en w11 ⟨a11, c11, vv11, rfl, hr11, hb11⟩; have HX11 := hid hb11; have HCw11 := hid (below_step HCw9.out hb11); have hfl := fun V => bfield (.slice a11 (nameL T (pickL r T.key)).length c11) vv11 V; have CB2 := hid (zbytes_any w11 hr11 (HRN.out.old hb11)); rw [beq_self_eq_true] at CB2; clear z0 z1 z2 z3 i0 i1 i2 i3 i4 i5 i6 hr11 hb11 CP)
    | (go_at_call 12; refine CB2.out.mono ?_; rintro en w12 ⟨rfl, hw12⟩; subst hw12; clear CB2))
  clear hfl
  have HRN11 := hid (HRN.out.old HX11.out)
  have HP11 := hid ((HX11.out.block _ (lt_of_block HP9.out)).trans HP9.out)
  have HQ11 := hid ((HX11.out.block _ (lt_of_block HQ9.out)).trans HQ9.out)
  have HEK11 := hid (HEK9.out.old HX11.out)
  have HFK11 := hid (HFK9.out.old HX11.out)
  clear HRN HP9 HQ9 HEK9 HFK9 HN9
  have HCw12 := HCw11
  refine wp_region_noPanic ?_
  refine wp_region_held_drew (S := fun V => Hid (Below w12.heap.size w12 V)) (by kernel_rfl) (hid (Below.drew (Below.refl _ _))) (fun hHeld => ?_)
  generalize w12.drew = Wd at *
  refine tkH 0 (.agg #[.int .i64 T.id, .string ⟨T.name.toArray⟩, .slice a1 T.cols.length e1, .slice a3 T.key.length e3]) rfl (by kernel_rfl) (fun _ _ _ => False.elim) hHeld (Or.inl ⟨by rfl, fun W9 hW => by obtain ⟨q0, q1, q2, q3, q4, q5, q6, q7, q8, q9, q10⟩ := HKT.out _ (below_step HCw12.out hW.out); clear hHeld hW; simp only [jA, jB, jC]; go_simp⟩) ?_
  simp only [Act.put, jA, jB, jC, jD, jE, jF]
  refine tkH 1 (.slice b2 r.length c2) rfl (by kernel_rfl) (fun _ _ _ => False.elim) hHeld (Or.inl ⟨by rfl, fun W9 hW => by clear hHeld hW; simp only [jA, jB, jC]; go_simp⟩) ?_
  simp only [Act.put, jA, jB, jC, jD, jE, jF]
  refine tkH 3 (.agg #[.int .i64 T.id, .string ⟨T.name.toArray⟩, .slice a1 T.cols.length e1, .slice a3 T.key.length e3]) rfl (by kernel_rfl) (fun _ _ _ => False.elim) hHeld (Or.inl ⟨by rfl, fun W9 hW => by obtain ⟨q0, q1, q2, q3, q4, q5, q6, q7, q8, q9, q10⟩ := HKT.out _ (below_step HCw12.out hW.out); clear hHeld hW; simp only [jA, jB, jC]; go_simp⟩) ?_
  simp only [Act.put, jA, jB, jC, jD, jE, jF]
  refine tkH 4 (.slice b3 s.length c3) rfl (by kernel_rfl) (fun _ _ _ => False.elim) hHeld (Or.inl ⟨by rfl, fun W9 hW => by clear hHeld hW; simp only [jA, jB, jC]; go_simp⟩) ?_
  simp only [Act.put, jA, jB, jC, jD, jE, jF]
  refine rdH 2 (by kernel_rfl) rfl fun K hK => ?_
  go_simp
  have CQ := hid (rkey_ok (HT2.out.old (below_step HCw12.out hHeld.out)) HTI.out.key (by have := HTI.out.keyl; omega) (HR2.out.old (below_step HCw12.out hHeld.out)) HRR.out.ok)
  go_wp2_with (first | (go_at_call 15; refine CQ.out.mono ?_; rintro en wB ⟨ka, kc, rfl, hvE, hbE⟩; have HBE := hid (below_step hHeld.out hbE); have HVA := hid hvE; have HXB := hid HBE.out; clear hvE hbE; have HCwB := hid (below_step HCw12.out HBE.out)))
  clear CQ hHeld
  refine hK.out _ _ HBE (fun hHeld => ?_)
  clear hK K
  try simp only [Act.put, jA, jB, jC, jD, jE, jF]
  refine wpAnyH_low (S' := fun V => Hid (Below wB.heap.size wB V)) (fun V hV => hid (below_step HBE.out hV.out)) _ _ _ _ ?_
  clear hHeld HBE
  have hHeld : Hid (Below wB.heap.size wB wB) := hid (Below.refl _ _)
  refine rdH 5 (by kernel_rfl) rfl fun K hK => ?_
  go_simp
  have CQ := hid (rkey_ok (HT2.out.old (below_step HCwB.out hHeld.out)) HTI.out.key (by have := HTI.out.keyl; omega) (HS2.out.old (below_step HCwB.out hHeld.out)) HSS.out.ok)
  go_wp2_with (first | (go_at_call 15; refine CQ.out.mono ?_; rintro en wC ⟨la, lc, rfl, hvE, hbE⟩; have HBE := hid (below_step hHeld.out hbE); have HVA2 := hid (HVA.out.old (below_step hHeld.out hbE)); have HVB := hid hvE; have HXC := hid (below_step HXB.out (below_step hHeld.out hbE)); clear hvE hbE; have HCwC := hid (below_step HCwB.out HBE.out)))
  clear CQ hHeld
  refine hK.out _ _ HBE (fun hHeld => ?_)
  clear hK K
  try simp only [Act.put, jA, jB, jC, jD, jE, jF]
  refine wpAnyH_low (S' := fun V => Hid (Below wC.heap.size wC V)) (fun V hV => hid (below_step HBE.out hV.out)) _ _ _ _ ?_
  clear hHeld HBE
  have hHeld : Hid (Below wC.heap.size wC wC) := hid (Below.refl _ _)
  refine rdH 6 (by kernel_rfl) rfl fun K hK => ?_
  go_simp
  have CQ := hid (vplain_f _ _ (pickL r T.key) (pickL s T.key) _ (HVA2.out.old hHeld.out) (HVB.out.old hHeld.out))
  go_wp2_with (first | (go_at_call 14; refine CQ.out.mono ?_; rintro en w13 ⟨rfl, hbE⟩; have HBE := hid (below_step hHeld.out hbE); have HX13 := hid (below_step HXC.out (below_step hHeld.out hbE)); clear hbE; have HCw13 := hid (below_step HCwC.out HBE.out)))
  clear CQ hHeld
  refine hK.out _ _ HBE (fun hHeld => ?_)
  clear hK K
  try simp only [Act.put, jA, jB, jC, jD, jE, jF]
  refine wpAnyH_low (S' := fun V => Hid (Below w13.heap.size w13 V)) (fun V hV => hid (below_step HBE.out hV.out)) _ _ _ _ ?_
  clear hHeld HBE
  have hHeld : Hid (Below w13.heap.size w13 w13) := hid (Below.refl _ _)
  refine tkH 7 (.bool (zlEq (pickL r T.key) (pickL s T.key))) rfl (by kernel_rfl) (fun _ _ _ => False.elim) hHeld (Or.inl ⟨by rfl, fun W9 hW => by clear hHeld hW; simp only [jA, jB, jC]; go_simp⟩) ?_
  simp only [Act.put, jA, jB, jC, jD, jE, jF]
  refine wpAnyH_done (by kernel_rfl) (NoPanic.normal ?_) _
  clear hHeld
  have HRN13 := hid (HRN11.out.old HX13.out)
  have HP13 := hid ((HX13.out.block _ (lt_of_block HP11.out)).trans HP11.out)
  have HQ13 := hid ((HX13.out.block _ (lt_of_block HQ11.out)).trans HQ11.out)
  have HEK13 := hid (HEK11.out.old HX13.out)
  have HFK13 := hid (HFK11.out.old HX13.out)
  clear HRN11 HP11 HQ11 HEK11 HFK11 HVA HVA2 HVB HXB HXC
  have hx4 := (HKT.out _ HCw13.out).2.2.2.2.2.2.2.2.1
  have hcm : X.cols.length ≤ 6 := HTI.out.coll
  go_wp2_with fail
  clear hx4
  go_loopw [15, 16, 17] (fun f9 c9 j wr => ∃ (n : Nat) (bf bc : Bool), n ≤ X.cols.length ∧ j = .int .i64 (n : Int) ∧ f9 = .bool bf ∧ c9 = .bool bc ∧ Hid (bf = (X.uniq && !(nullIn (pickL r (X.cols.take n))))) ∧ Hid (bc = zlEq (pickL r (X.cols.take n)) (pickL s (X.cols.take n))) ∧ Hid (Below w13.heap.size w13 wr))
    (fun _ _ j _ => X.cols.length - (intOf j).toNat)
  case atStart => exact ⟨0, X.uniq, true, by omega, rfl, rfl, rfl, hid (by simp [pickL, nullIn]), hid (by simp [pickL]; exact ((zlEq_iff [] []).2 rfl).symm), Below.refl _ _⟩
  case round =>
  obtain ⟨n, bf, bc, hn, rfl, rfl, rfl, HBF, HBC, HBr⟩ := hrel
  have HCr := hid (below_step HCw13.out HBr.out)
  by_cases hlt : n < X.cols.length
  case pos =>
    obtain ⟨z, hz⟩ : ∃ z, X.cols[n]? = some z := ⟨_, List.getElem?_eq_getElem hlt⟩
    obtain ⟨hz1, hz2⟩ := HTI.out.cols z (List.mem_of_getElem? hz)
    obtain ⟨m, rfl⟩ : ∃ m : Nat, z = (m : Int) := ⟨z.toNat, by omega⟩
    have hrl : r.length = T.cols.length := HRR.out.ok.1
    have hsl : s.length = T.cols.length := HSS.out.ok.1
    have hmr : (m : Int) < (r.length : Int) := by omega
    have hms : (m : Int) < (s.length : Int) := by omega
    obtain ⟨v, hv⟩ : ∃ v, r[m]? = some v := ⟨_, List.getElem?_eq_getElem (by omega)⟩
    obtain ⟨u, hu⟩ : ∃ u, s[m]? = some u := ⟨_, List.getElem?_eq_getElem (by omega)⟩
    have HPr : Hid ((pickL r X.cols)[n]? = some v ∧ (pickL s X.cols)[n]? = some u) := hid ⟨by unfold pickL; rw [List.getElem?_map, hz]; simp [List.getD_eq_getElem?_getD, hv], by unfold pickL; rw [List.getElem?_map, hz]; simp [List.getD_eq_getElem?_getD, hu]⟩
    have hpt : ∀ (L : List Vl) k, (pickL L X.cols).take k = pickL L (X.cols.take k) := fun L k => by unfold pickL; rw [List.map_take]
    have HBF2 : Hid ((X.uniq && !(nullIn (pickL r (X.cols.take (n + 1))))) = (bf && (v.k != 0))) := hid (by
      rw [← hpt, nullIn_take HPr.out.1, hpt, HBF.out]
      cases X.uniq <;> cases nullIn (pickL r (X.cols.take n)) <;> by_cases e : v.k = 0 <;> simp [e])
    have HBC2 : Hid (zlEq (pickL r (X.cols.take (n + 1))) (pickL s (X.cols.take (n + 1))) = (bc && ((v.k == u.k) && (v.i == u.i) && (v.s == u.s)))) := hid (by
      rw [← hpt, ← hpt, zlEq_take HPr.out.1 HPr.out.2, hpt, hpt, HBC.out]; rfl)
    obtain ⟨xb, xo, rfl, xc0⟩ := HPC.out n m hz
    obtain ⟨rb, ro, rfl, d0, d1, d2⟩ := HR2.out.get hv
    obtain ⟨sb, so, rfl, f0, f1, f2⟩ := HS2.out.get hu
    have hni : (n : Int) < (X.cols.length : Int) := by omega
    have HWr := hid (below_step HB.out HCr.out)
    have hx3 := (HKT.out _ HCr.out).2.2.2.2.2.2.2.1
    have k0 := (HWr.out.cell (block_cell xc0)).trans xc0
    have r0 := (HCr.out.cell (block_cell d0)).trans d0
    have r1 := (HCr.out.cell (block_cell d1)).trans d1
    have r2 := (HCr.out.cell (block_cell d2)).trans d2
    have s0 := (HCr.out.cell (block_cell f0)).trans f0
    have s1 := (HCr.out.cell (block_cell f1)).trans f1
    have s2 := (HCr.out.cell (block_cell f2)).trans f2
    clear hrl hsl hz hv hu hz1 hz2 hpt HPr xc0 d0 d1 d2 f0 f1 f2
    have HBX := hid HBr.out.drew
    cases bc with
    | false =>
      have HBC3 : Hid (zlEq (pickL r (X.cols.take (n + 1))) (pickL s (X.cols.take (n + 1))) = false) := hid (by rw [HBC2.out]; rfl)
      clear HBC2 HBC
      cases bf
      all_goals
        go_upto_region 15 with fail
        go_region
        go_wp2_with fail
        go_roundw
        case rel => exact ⟨n + 1, _, false, by omega, by go_num, rfl, rfl, hid (by rw [HBF2.out]; rfl), hid (by rw [HBC3.out]), HBX⟩
        case measure => simp [intOf]; omega
    | true =>
      cases h1 : (v.k == u.k) <;> cases h2 : (v.i == u.i) <;> cases h3 : (v.s == u.s)
      all_goals
        rw [h1, h2, h3] at HBC2
        clear HBC
        cases bf
        all_goals
          go_upto_region 15 with fail
          go_region
          go_wp2_with fail
          go_roundw
          case rel => exact ⟨n + 1, _, _, by omega, by go_num, rfl, rfl, hid (by rw [HBF2.out]; rfl), hid (by rw [HBC2.out]; first | rfl | (simp_all; done)), HBX⟩
          case measure => simp [intOf]; omega
  obtain rfl : n = X.cols.length := by omega
  have hki : ¬ (X.cols.length : Int) < (X.cols.length : Int) := by omega
  rw [List.take_length] at HBF HBC
  have hx3 := (HKT.out _ HCr.out).2.2.2.2.2.2.2.1
  have HFU : Hid (bf = fullB X r) := hid HBF.out
  have HEQ1 : Hid ((nameL T (pickL s T.key) == nameL T (pickL r T.key)) = zlEq (pickL r T.key) (pickL s T.key)) := hid (by rw [nameL_inj HOB.out HOA.out, zlEq_comm])
  have HEQ2 : Hid ((entKey T X r == entKey T X s) = (bc && (bf || zlEq (pickL r T.key) (pickL s T.key)))) := hid (by rw [entKey_inj HTI.out HRR.out HSS.out, HBC.out, HFU.out])
  have HRNr := hid (HRN13.out.old HBr.out)
  have HPr := hid ((HBr.out.block _ (lt_of_block HP13.out)).trans HP13.out)
  have HQr := hid ((HBr.out.block _ (lt_of_block HQ13.out)).trans HQ13.out)
  have HEKr := hid (HEK13.out.old HBr.out)
  have HFKr := hid (HFK13.out.old HBr.out)
  clear HBF HBC HFU HRN13 HP13 HQ13 HEK13 HFK13 hn hlt
  go_upto_region 16 with fail
  clear hx3 hki
  generalize zlEq (pickL r T.key) (pickL s T.key) = al at *
  cases bc <;> cases bf <;> cases al
  · simp only [Bool.false_and, Bool.true_and, Bool.false_or, Bool.true_or, Bool.and_true, Bool.and_false] at HEQ2
    refine wp_region_noPanic ?_
    refine wp_region_held_drew (S := fun V => Hid (Below wr.heap.size wr V)) (by kernel_rfl) (hid (Below.drew (Below.refl _ _))) (fun hHeld => ?_)
    generalize wr.drew = Wd at *
    have HCwr := HCr
    refine tkH 0 (.agg #[.int .i64 T.id, .string ⟨T.name.toArray⟩, .slice a1 T.cols.length e1, .slice a3 T.key.length e3]) rfl (by kernel_rfl) (fun _ _ _ => False.elim) hHeld (Or.inl ⟨by rfl, fun W9 hW => by obtain ⟨q0, q1, q2, q3, q4, q5, q6, q7, q8, q9, q10⟩ := HKT.out _ (below_step HCwr.out hW.out); clear hHeld hW; simp only [jA, jB, jC]; go_simp⟩) ?_
    simp only [Act.put, jA, jB, jC, jD, jE, jF]
    refine tkH 1 (.agg #[.int .i64 T.id, .string ⟨T.name.toArray⟩, .slice a1 T.cols.length e1, .slice a3 T.key.length e3]) rfl (by kernel_rfl) (fun _ _ _ => False.elim) hHeld (Or.inl ⟨by rfl, fun W9 hW => by obtain ⟨q0, q1, q2, q3, q4, q5, q6, q7, q8, q9, q10⟩ := HKT.out _ (below_step HCwr.out hW.out); clear hHeld hW; simp only [jA, jB, jC]; go_simp⟩) ?_
    simp only [Act.put, jA, jB, jC, jD, jE, jF]
    refine tkH 2 (.slice b3 s.length c3) rfl (by kernel_rfl) (fun _ _ _ => False.elim) hHeld (Or.inl ⟨by rfl, fun W9 hW => by clear hHeld hW; simp only [jA, jB, jC]; go_simp⟩) ?_
    simp only [Act.put, jA, jB, jC, jD, jE, jF]
    refine tkH 5 (.slice na (nameL T (pickL r T.key)).length nc) rfl (by kernel_rfl) (fun _ _ _ => False.elim) hHeld (Or.inl ⟨by rfl, fun W9 hW => by clear hHeld hW; simp only [jA, jB, jC]; go_simp⟩) ?_
    simp only [Act.put, jA, jB, jC, jD, jE, jF]
    refine tkH 7 (.bool false) rfl (by kernel_rfl) (fun _ _ _ => False.elim) hHeld (Or.inl ⟨by rfl, fun W9 hW => by clear hHeld hW; simp only [jA, jB, jC]; go_simp⟩) ?_
    simp only [Act.put, jA, jB, jC, jD, jE, jF]
    refine rdH 3 (by kernel_rfl) rfl fun K hK => ?_
    go_simp
    have CQ := hid (zkey_ok (HT2.out.old (below_step HCwr.out hHeld.out)) HTI.out.key (by have := HTI.out.keyl; omega) (HS2.out.old (below_step HCwr.out hHeld.out)) HSS.out.ok)
    go_wp2_with (first | (go_at_call 11; refine CQ.out.mono ?_; rintro en wD ⟨ja, jc, rfl, hvE, hbE⟩; have HBE := hid (below_step hHeld.out hbE); have HVB := hid hvE; have HXD := hid HBE.out; clear hvE hbE; have HCwD := hid (below_step HCwr.out HBE.out)))
    clear CQ hHeld
    refine hK.out _ _ HBE (fun hHeld => ?_)
    clear hK K
    try simp only [Act.put, jA, jB, jC, jD, jE, jF]
    refine wpAnyH_low (S' := fun V => Hid (Below wD.heap.size wD V)) (fun V hV => hid (below_step HBE.out hV.out)) _ _ _ _ ?_
    clear hHeld HBE
    have hHeld : Hid (Below wD.heap.size wD wD) := hid (Below.refl _ _)
    refine rdH 4 (by kernel_rfl) rfl fun K hK => ?_
    go_simp
    have CQ := hid (name_ok (HT2.out.old (below_step HCwD.out hHeld.out)) HTI.out.tid HTI.out.key (by have := HTI.out.keyl; omega) (HVB.out.old hHeld.out) HOB.out.inn HKB.out)
    go_wp2_with (first | (go_at_call 10; refine CQ.out.mono ?_; rintro en wE ⟨v2, rfl, hoE, hbE⟩; have HBE := hid (below_step hHeld.out hbE); obtain ⟨ma, mc, rfl, hrE⟩ := zown_rd hoE; have HRM := hid hrE; have HXE := hid (below_step HXD.out (below_step hHeld.out hbE)); clear hoE hrE hbE; have HCwE := hid (below_step HCwD.out HBE.out)))
    clear CQ hHeld
    refine hK.out _ _ HBE (fun hHeld => ?_)
    clear hK K
    try simp only [Act.put, jA, jB, jC, jD, jE, jF]
    refine wpAnyH_low (S' := fun V => Hid (Below wE.heap.size wE V)) (fun V hV => hid (below_step HBE.out hV.out)) _ _ _ _ ?_
    clear hHeld HBE
    have hHeld : Hid (Below wE.heap.size wE wE) := hid (Below.refl _ _)
    have HRNe := hid (HRNr.out.old HXE.out)
    refine rdH 6 (by kernel_rfl) rfl fun K hK => ?_
    go_simp
    have CQ := hid (zbytes_eq (HRM.out.old hHeld.out) (HRNe.out.old hHeld.out) HEQ1.out)
    go_wp2_with (first | (go_at_call 12; refine CQ.out.mono ?_; rintro en wF ⟨rfl, hbE⟩; have HBE := hid (below_step hHeld.out hbE); have HXF := hid (below_step HXE.out (below_step hHeld.out hbE)); clear hbE; have HCwF := hid (below_step HCwE.out HBE.out)))
    clear CQ hHeld
    refine hK.out _ _ HBE (fun hHeld => ?_)
    clear hK K
    try simp only [Act.put, jA, jB, jC, jD, jE, jF]
    refine wpAnyH_low (S' := fun V => Hid (Below wF.heap.size wF V)) (fun V hV => hid (below_step HBE.out hV.out)) _ _ _ _ ?_
    clear hHeld HBE
    have hHeld : Hid (Below wF.heap.size wF wF) := hid (Below.refl _ _)
    refine tkH 8 (.bool true) rfl (by kernel_rfl) (fun _ _ _ => False.elim) hHeld (Or.inl ⟨by rfl, fun W9 hW => by clear hHeld hW; simp only [jA, jB, jC]; go_simp⟩) ?_
    simp only [Act.put, jA, jB, jC, jD, jE, jF]
    refine tkH 9 (.bool true) rfl (by kernel_rfl) (fun _ _ _ => False.elim) hHeld (Or.inl ⟨by rfl, fun W9 hW => by clear hHeld hW; simp only [jA, jB, jC]; go_simp⟩) ?_
    simp only [Act.put, jA, jB, jC, jD, jE, jF]
    refine tkH 10 (.pointer (some ⟨gp, 0, none⟩)) rfl (by kernel_rfl) (fun _ _ _ => False.elim) hHeld (Or.inl ⟨by rfl, fun W9 hW => by clear hHeld hW; simp only [jA, jB, jC]; go_simp⟩) ?_
    simp only [Act.put, jA, jB, jC, jD, jE, jF]
    refine tkH 11 (.slice ek (entKey T X r).length ec) rfl (by kernel_rfl) (fun _ _ _ => False.elim) hHeld (Or.inl ⟨by rfl, fun W9 hW => by have h9 := (((below_step HXF.out hW.out)).block _ (lt_of_block HPr.out)).trans HPr.out; have p0 := cell_in h9 0 _ rfl; clear hHeld hW; simp only [jA, jB, jC]; go_simp⟩) ?_
    simp only [Act.put, jA, jB, jC, jD, jE, jF]
    refine tkH 12 (.pointer (some ⟨gq, 0, none⟩)) rfl (by kernel_rfl) (fun _ _ _ => False.elim) hHeld (Or.inl ⟨by rfl, fun W9 hW => by clear hHeld hW; simp only [jA, jB, jC]; go_simp⟩) ?_
    simp only [Act.put, jA, jB, jC, jD, jE, jF]
    refine tkH 13 (.slice fk (entKey T X s).length fc) rfl (by kernel_rfl) (fun _ _ _ => False.elim) hHeld (Or.inl ⟨by rfl, fun W9 hW => by have h9 := (((below_step HXF.out hW.out)).block _ (lt_of_block HQr.out)).trans HQr.out; have p0 := cell_in h9 0 _ rfl; clear hHeld hW; simp only [jA, jB, jC]; go_simp⟩) ?_
    simp only [Act.put, jA, jB, jC, jD, jE, jF]
    refine tkH 15 (.bool false) rfl (by kernel_rfl) (fun _ _ _ => False.elim) hHeld (Or.inl ⟨by rfl, fun W9 hW => by clear hHeld hW; simp only [jA, jB, jC]; go_simp⟩) ?_
    simp only [Act.put, jA, jB, jC, jD, jE, jF]
    have HEKe := hid (HEKr.out.old HXF.out)
    have HFKe := hid (HFKr.out.old HXF.out)
    refine rdH 14 (by kernel_rfl) rfl fun K hK => ?_
    go_simp
    have CQ := hid (zbytes_eq (HEKe.out.old hHeld.out) (HFKe.out.old hHeld.out) HEQ2.out)
    go_wp2_with (first | (go_at_call 12; refine CQ.out.mono ?_; rintro en wG ⟨rfl, hbE⟩; have HBE := hid (below_step hHeld.out hbE); clear hbE; have HCwG := hid (below_step HCwF.out HBE.out)))
    clear CQ hHeld
    refine hK.out _ _ HBE (fun hHeld => ?_)
    clear hK K
    try simp only [Act.put, jA, jB, jC, jD, jE, jF]
    refine wpAnyH_low (S' := fun V => Hid (Below wG.heap.size wG V)) (fun V hV => hid (below_step HBE.out hV.out)) _ _ _ _ ?_
    clear hHeld HBE
    have hHeld : Hid (Below wG.heap.size wG wG) := hid (Below.refl _ _)
    refine tkH 16 (.bool false) rfl (by kernel_rfl) (fun _ _ _ => False.elim) hHeld (Or.inl ⟨by rfl, fun W9 hW => by clear hHeld hW; simp only [jA, jB, jC]; go_simp⟩) ?_
    simp only [Act.put, jA, jB, jC, jD, jE, jF]
    refine tkH 17 (undef) rfl (by kernel_rfl) (fun _ _ _ => False.elim) hHeld (Or.inr ⟨by rfl, by rfl⟩) ?_
    simp only [Act.put, jA, jB, jC, jD, jE, jF]
    refine tkH 18 (undef) rfl (by kernel_rfl) (fun _ _ _ => False.elim) hHeld (Or.inr ⟨by rfl, by rfl⟩) ?_
    simp only [Act.put, jA, jB, jC, jD, jE, jF]
    refine tkH 19 (undef) rfl (by kernel_rfl) (fun _ _ _ => False.elim) hHeld (Or.inr ⟨by rfl, by rfl⟩) ?_
    simp only [Act.put, jA, jB, jC, jD, jE, jF]
    refine tkH 20 (undef) rfl (by kernel_rfl) (fun _ _ _ => False.elim) hHeld (Or.inr ⟨by rfl, by rfl⟩) ?_
    simp only [Act.put, jA, jB, jC, jD, jE, jF]
    refine tkH 21 (.bool false) rfl (by kernel_rfl) (fun _ _ _ => False.elim) hHeld (Or.inl ⟨by rfl, fun W9 hW => by clear hHeld hW; simp only [jA, jB, jC]; go_simp⟩) ?_
    simp only [Act.put, jA, jB, jC, jD, jE, jF]
    refine tkH 22 (.bool true) rfl (by kernel_rfl) (fun _ _ _ => False.elim) hHeld (Or.inl ⟨by rfl, fun W9 hW => by clear hHeld hW; simp only [jA, jB, jC]; go_simp⟩) ?_
    simp only [Act.put, jA, jB, jC, jD, jE, jF]
    refine tkH 23 (.bool true) rfl (by kernel_rfl) (fun _ _ _ => False.elim) hHeld (Or.inl ⟨by rfl, fun W9 hW => by clear hHeld hW; simp only [jA, jB, jC]; go_simp⟩) ?_
    simp only [Act.put, jA, jB, jC, jD, jE, jF]
    refine tkH 24 (.bool true) rfl (by kernel_rfl) (fun _ _ _ => False.elim) hHeld (Or.inl ⟨by rfl, fun W9 hW => by clear hHeld hW; simp only [jA, jB, jC]; go_simp⟩) ?_
    simp only [Act.put, jA, jB, jC, jD, jE, jF]
    refine wpAnyH_done (by kernel_rfl) (NoPanic.normal ?_) _
    clear hHeld
    go_wp2_with fail
    go_ret
    exact ⟨rfl, below_step HB.out HCwG.out⟩
  · simp only [Bool.false_and, Bool.true_and, Bool.false_or, Bool.true_or, Bool.and_true, Bool.and_false] at HEQ2
    refine wp_region_noPanic ?_
    refine wp_region_held_drew (S := fun V => Hid (Below wr.heap.size wr V)) (by kernel_rfl) (hid (Below.drew (Below.refl _ _))) (fun hHeld => ?_)
    generalize wr.drew = Wd at *
    have HCwr := HCr
    refine tkH 0 (.agg #[.int .i64 T.id, .string ⟨T.name.toArray⟩, .slice a1 T.cols.length e1, .slice a3 T.key.length e3]) rfl (by kernel_rfl) (fun _ _ _ => False.elim) hHeld (Or.inl ⟨by rfl, fun W9 hW => by obtain ⟨q0, q1, q2, q3, q4, q5, q6, q7, q8, q9, q10⟩ := HKT.out _ (below_step HCwr.out hW.out); clear hHeld hW; simp only [jA, jB, jC]; go_simp⟩) ?_
    simp only [Act.put, jA, jB, jC, jD, jE, jF]
    refine tkH 1 (.agg #[.int .i64 T.id, .string ⟨T.name.toArray⟩, .slice a1 T.cols.length e1, .slice a3 T.key.length e3]) rfl (by kernel_rfl) (fun _ _ _ => False.elim) hHeld (Or.inl ⟨by rfl, fun W9 hW => by obtain ⟨q0, q1, q2, q3, q4, q5, q6, q7, q8, q9, q10⟩ := HKT.out _ (below_step HCwr.out hW.out); clear hHeld hW; simp only [jA, jB, jC]; go_simp⟩) ?_
    simp only [Act.put, jA, jB, jC, jD, jE, jF]
    refine tkH 2 (.slice b3 s.length c3) rfl (by kernel_rfl) (fun _ _ _ => False.elim) hHeld (Or.inl ⟨by rfl, fun W9 hW => by clear hHeld hW; simp only [jA, jB, jC]; go_simp⟩) ?_
    simp only [Act.put, jA, jB, jC, jD, jE, jF]
    refine tkH 5 (.slice na (nameL T (pickL r T.key)).length nc) rfl (by kernel_rfl) (fun _ _ _ => False.elim) hHeld (Or.inl ⟨by rfl, fun W9 hW => by clear hHeld hW; simp only [jA, jB, jC]; go_simp⟩) ?_
    simp only [Act.put, jA, jB, jC, jD, jE, jF]
    refine tkH 7 (.bool true) rfl (by kernel_rfl) (fun _ _ _ => False.elim) hHeld (Or.inl ⟨by rfl, fun W9 hW => by clear hHeld hW; simp only [jA, jB, jC]; go_simp⟩) ?_
    simp only [Act.put, jA, jB, jC, jD, jE, jF]
    refine rdH 3 (by kernel_rfl) rfl fun K hK => ?_
    go_simp
    have CQ := hid (zkey_ok (HT2.out.old (below_step HCwr.out hHeld.out)) HTI.out.key (by have := HTI.out.keyl; omega) (HS2.out.old (below_step HCwr.out hHeld.out)) HSS.out.ok)
    go_wp2_with (first | (go_at_call 11; refine CQ.out.mono ?_; rintro en wD ⟨ja, jc, rfl, hvE, hbE⟩; have HBE := hid (below_step hHeld.out hbE); have HVB := hid hvE; have HXD := hid HBE.out; clear hvE hbE; have HCwD := hid (below_step HCwr.out HBE.out)))
    clear CQ hHeld
    refine hK.out _ _ HBE (fun hHeld => ?_)
    clear hK K
    try simp only [Act.put, jA, jB, jC, jD, jE, jF]
    refine wpAnyH_low (S' := fun V => Hid (Below wD.heap.size wD V)) (fun V hV => hid (below_step HBE.out hV.out)) _ _ _ _ ?_
    clear hHeld HBE
    have hHeld : Hid (Below wD.heap.size wD wD) := hid (Below.refl _ _)
    refine rdH 4 (by kernel_rfl) rfl fun K hK => ?_
    go_simp
    have CQ := hid (name_ok (HT2.out.old (below_step HCwD.out hHeld.out)) HTI.out.tid HTI.out.key (by have := HTI.out.keyl; omega) (HVB.out.old hHeld.out) HOB.out.inn HKB.out)
    go_wp2_with (first | (go_at_call 10; refine CQ.out.mono ?_; rintro en wE ⟨v2, rfl, hoE, hbE⟩; have HBE := hid (below_step hHeld.out hbE); obtain ⟨ma, mc, rfl, hrE⟩ := zown_rd hoE; have HRM := hid hrE; have HXE := hid (below_step HXD.out (below_step hHeld.out hbE)); clear hoE hrE hbE; have HCwE := hid (below_step HCwD.out HBE.out)))
    clear CQ hHeld
    refine hK.out _ _ HBE (fun hHeld => ?_)
    clear hK K
    try simp only [Act.put, jA, jB, jC, jD, jE, jF]
    refine wpAnyH_low (S' := fun V => Hid (Below wE.heap.size wE V)) (fun V hV => hid (below_step HBE.out hV.out)) _ _ _ _ ?_
    clear hHeld HBE
    have hHeld : Hid (Below wE.heap.size wE wE) := hid (Below.refl _ _)
    have HRNe := hid (HRNr.out.old HXE.out)
    refine rdH 6 (by kernel_rfl) rfl fun K hK => ?_
    go_simp
    have CQ := hid (zbytes_eq (HRM.out.old hHeld.out) (HRNe.out.old hHeld.out) HEQ1.out)
    go_wp2_with (first | (go_at_call 12; refine CQ.out.mono ?_; rintro en wF ⟨rfl, hbE⟩; have HBE := hid (below_step hHeld.out hbE); have HXF := hid (below_step HXE.out (below_step hHeld.out hbE)); clear hbE; have HCwF := hid (below_step HCwE.out HBE.out)))
    clear CQ hHeld
    refine hK.out _ _ HBE (fun hHeld => ?_)
    clear hK K
    try simp only [Act.put, jA, jB, jC, jD, jE, jF]
    refine wpAnyH_low (S' := fun V => Hid (Below wF.heap.size wF V)) (fun V hV => hid (below_step HBE.out hV.out)) _ _ _ _ ?_
    clear hHeld HBE
    have hHeld : Hid (Below wF.heap.size wF wF) := hid (Below.refl _ _)
    refine tkH 8 (.bool true) rfl (by kernel_rfl) (fun _ _ _ => False.elim) hHeld (Or.inl ⟨by rfl, fun W9 hW => by clear hHeld hW; simp only [jA, jB, jC]; go_simp⟩) ?_
    simp only [Act.put, jA, jB, jC, jD, jE, jF]
    refine tkH 9 (.bool true) rfl (by kernel_rfl) (fun _ _ _ => False.elim) hHeld (Or.inl ⟨by rfl, fun W9 hW => by clear hHeld hW; simp only [jA, jB, jC]; go_simp⟩) ?_
    simp only [Act.put, jA, jB, jC, jD, jE, jF]
    refine tkH 10 (.pointer (some ⟨gp, 0, none⟩)) rfl (by kernel_rfl) (fun _ _ _ => False.elim) hHeld (Or.inl ⟨by rfl, fun W9 hW => by clear hHeld hW; simp only [jA, jB, jC]; go_simp⟩) ?_
    simp only [Act.put, jA, jB, jC, jD, jE, jF]
    refine tkH 11 (.slice ek (entKey T X r).length ec) rfl (by kernel_rfl) (fun _ _ _ => False.elim) hHeld (Or.inl ⟨by rfl, fun W9 hW => by have h9 := (((below_step HXF.out hW.out)).block _ (lt_of_block HPr.out)).trans HPr.out; have p0 := cell_in h9 0 _ rfl; clear hHeld hW; simp only [jA, jB, jC]; go_simp⟩) ?_
    simp only [Act.put, jA, jB, jC, jD, jE, jF]
    refine tkH 12 (.pointer (some ⟨gq, 0, none⟩)) rfl (by kernel_rfl) (fun _ _ _ => False.elim) hHeld (Or.inl ⟨by rfl, fun W9 hW => by clear hHeld hW; simp only [jA, jB, jC]; go_simp⟩) ?_
    simp only [Act.put, jA, jB, jC, jD, jE, jF]
    refine tkH 13 (.slice fk (entKey T X s).length fc) rfl (by kernel_rfl) (fun _ _ _ => False.elim) hHeld (Or.inl ⟨by rfl, fun W9 hW => by have h9 := (((below_step HXF.out hW.out)).block _ (lt_of_block HQr.out)).trans HQr.out; have p0 := cell_in h9 0 _ rfl; clear hHeld hW; simp only [jA, jB, jC]; go_simp⟩) ?_
    simp only [Act.put, jA, jB, jC, jD, jE, jF]
    refine tkH 15 (.bool false) rfl (by kernel_rfl) (fun _ _ _ => False.elim) hHeld (Or.inl ⟨by rfl, fun W9 hW => by clear hHeld hW; simp only [jA, jB, jC]; go_simp⟩) ?_
    simp only [Act.put, jA, jB, jC, jD, jE, jF]
    have HEKe := hid (HEKr.out.old HXF.out)
    have HFKe := hid (HFKr.out.old HXF.out)
    refine rdH 14 (by kernel_rfl) rfl fun K hK => ?_
    go_simp
    have CQ := hid (zbytes_eq (HEKe.out.old hHeld.out) (HFKe.out.old hHeld.out) HEQ2.out)
    go_wp2_with (first | (go_at_call 12; refine CQ.out.mono ?_; rintro en wG ⟨rfl, hbE⟩; have HBE := hid (below_step hHeld.out hbE); clear hbE; have HCwG := hid (below_step HCwF.out HBE.out)))
    clear CQ hHeld
    refine hK.out _ _ HBE (fun hHeld => ?_)
    clear hK K
    try simp only [Act.put, jA, jB, jC, jD, jE, jF]
    refine wpAnyH_low (S' := fun V => Hid (Below wG.heap.size wG V)) (fun V hV => hid (below_step HBE.out hV.out)) _ _ _ _ ?_
    clear hHeld HBE
    have hHeld : Hid (Below wG.heap.size wG wG) := hid (Below.refl _ _)
    refine tkH 16 (.bool false) rfl (by kernel_rfl) (fun _ _ _ => False.elim) hHeld (Or.inl ⟨by rfl, fun W9 hW => by clear hHeld hW; simp only [jA, jB, jC]; go_simp⟩) ?_
    simp only [Act.put, jA, jB, jC, jD, jE, jF]
    refine tkH 17 (undef) rfl (by kernel_rfl) (fun _ _ _ => False.elim) hHeld (Or.inr ⟨by rfl, by rfl⟩) ?_
    simp only [Act.put, jA, jB, jC, jD, jE, jF]
    refine tkH 18 (undef) rfl (by kernel_rfl) (fun _ _ _ => False.elim) hHeld (Or.inr ⟨by rfl, by rfl⟩) ?_
    simp only [Act.put, jA, jB, jC, jD, jE, jF]
    refine tkH 19 (undef) rfl (by kernel_rfl) (fun _ _ _ => False.elim) hHeld (Or.inr ⟨by rfl, by rfl⟩) ?_
    simp only [Act.put, jA, jB, jC, jD, jE, jF]
    refine tkH 20 (undef) rfl (by kernel_rfl) (fun _ _ _ => False.elim) hHeld (Or.inr ⟨by rfl, by rfl⟩) ?_
    simp only [Act.put, jA, jB, jC, jD, jE, jF]
    refine tkH 21 (.bool false) rfl (by kernel_rfl) (fun _ _ _ => False.elim) hHeld (Or.inl ⟨by rfl, fun W9 hW => by clear hHeld hW; simp only [jA, jB, jC]; go_simp⟩) ?_
    simp only [Act.put, jA, jB, jC, jD, jE, jF]
    refine tkH 22 (.bool true) rfl (by kernel_rfl) (fun _ _ _ => False.elim) hHeld (Or.inl ⟨by rfl, fun W9 hW => by clear hHeld hW; simp only [jA, jB, jC]; go_simp⟩) ?_
    simp only [Act.put, jA, jB, jC, jD, jE, jF]
    refine tkH 23 (.bool true) rfl (by kernel_rfl) (fun _ _ _ => False.elim) hHeld (Or.inl ⟨by rfl, fun W9 hW => by clear hHeld hW; simp only [jA, jB, jC]; go_simp⟩) ?_
    simp only [Act.put, jA, jB, jC, jD, jE, jF]
    refine tkH 24 (.bool true) rfl (by kernel_rfl) (fun _ _ _ => False.elim) hHeld (Or.inl ⟨by rfl, fun W9 hW => by clear hHeld hW; simp only [jA, jB, jC]; go_simp⟩) ?_
    simp only [Act.put, jA, jB, jC, jD, jE, jF]
    refine wpAnyH_done (by kernel_rfl) (NoPanic.normal ?_) _
    clear hHeld
    go_wp2_with fail
    go_ret
    exact ⟨rfl, below_step HB.out HCwG.out⟩
  · simp only [Bool.false_and, Bool.true_and, Bool.false_or, Bool.true_or, Bool.and_true, Bool.and_false] at HEQ2
    refine wp_region_noPanic ?_
    refine wp_region_held_drew (S := fun V => Hid (Below wr.heap.size wr V)) (by kernel_rfl) (hid (Below.drew (Below.refl _ _))) (fun hHeld => ?_)
    generalize wr.drew = Wd at *
    have HCwr := HCr
    refine tkH 0 (.agg #[.int .i64 T.id, .string ⟨T.name.toArray⟩, .slice a1 T.cols.length e1, .slice a3 T.key.length e3]) rfl (by kernel_rfl) (fun _ _ _ => False.elim) hHeld (Or.inl ⟨by rfl, fun W9 hW => by obtain ⟨q0, q1, q2, q3, q4, q5, q6, q7, q8, q9, q10⟩ := HKT.out _ (below_step HCwr.out hW.out); clear hHeld hW; simp only [jA, jB, jC]; go_simp⟩) ?_
    simp only [Act.put, jA, jB, jC, jD, jE, jF]
    refine tkH 1 (.agg #[.int .i64 T.id, .string ⟨T.name.toArray⟩, .slice a1 T.cols.length e1, .slice a3 T.key.length e3]) rfl (by kernel_rfl) (fun _ _ _ => False.elim) hHeld (Or.inl ⟨by rfl, fun W9 hW => by obtain ⟨q0, q1, q2, q3, q4, q5, q6, q7, q8, q9, q10⟩ := HKT.out _ (below_step HCwr.out hW.out); clear hHeld hW; simp only [jA, jB, jC]; go_simp⟩) ?_
    simp only [Act.put, jA, jB, jC, jD, jE, jF]
    refine tkH 2 (.slice b3 s.length c3) rfl (by kernel_rfl) (fun _ _ _ => False.elim) hHeld (Or.inl ⟨by rfl, fun W9 hW => by clear hHeld hW; simp only [jA, jB, jC]; go_simp⟩) ?_
    simp only [Act.put, jA, jB, jC, jD, jE, jF]
    refine tkH 5 (.slice na (nameL T (pickL r T.key)).length nc) rfl (by kernel_rfl) (fun _ _ _ => False.elim) hHeld (Or.inl ⟨by rfl, fun W9 hW => by clear hHeld hW; simp only [jA, jB, jC]; go_simp⟩) ?_
    simp only [Act.put, jA, jB, jC, jD, jE, jF]
    refine tkH 7 (.bool false) rfl (by kernel_rfl) (fun _ _ _ => False.elim) hHeld (Or.inl ⟨by rfl, fun W9 hW => by clear hHeld hW; simp only [jA, jB, jC]; go_simp⟩) ?_
    simp only [Act.put, jA, jB, jC, jD, jE, jF]
    refine rdH 3 (by kernel_rfl) rfl fun K hK => ?_
    go_simp
    have CQ := hid (zkey_ok (HT2.out.old (below_step HCwr.out hHeld.out)) HTI.out.key (by have := HTI.out.keyl; omega) (HS2.out.old (below_step HCwr.out hHeld.out)) HSS.out.ok)
    go_wp2_with (first | (go_at_call 11; refine CQ.out.mono ?_; rintro en wD ⟨ja, jc, rfl, hvE, hbE⟩; have HBE := hid (below_step hHeld.out hbE); have HVB := hid hvE; have HXD := hid HBE.out; clear hvE hbE; have HCwD := hid (below_step HCwr.out HBE.out)))
    clear CQ hHeld
    refine hK.out _ _ HBE (fun hHeld => ?_)
    clear hK K
    try simp only [Act.put, jA, jB, jC, jD, jE, jF]
    refine wpAnyH_low (S' := fun V => Hid (Below wD.heap.size wD V)) (fun V hV => hid (below_step HBE.out hV.out)) _ _ _ _ ?_
    clear hHeld HBE
    have hHeld : Hid (Below wD.heap.size wD wD) := hid (Below.refl _ _)
    refine rdH 4 (by kernel_rfl) rfl fun K hK => ?_
    go_simp
    have CQ := hid (name_ok (HT2.out.old (below_step HCwD.out hHeld.out)) HTI.out.tid HTI.out.key (by have := HTI.out.keyl; omega) (HVB.out.old hHeld.out) HOB.out.inn HKB.out)
    go_wp2_with (first | (go_at_call 10; refine CQ.out.mono ?_; rintro en wE ⟨v2, rfl, hoE, hbE⟩; have HBE := hid (below_step hHeld.out hbE); obtain ⟨ma, mc, rfl, hrE⟩ := zown_rd hoE; have HRM := hid hrE; have HXE := hid (below_step HXD.out (below_step hHeld.out hbE)); clear hoE hrE hbE; have HCwE := hid (below_step HCwD.out HBE.out)))
    clear CQ hHeld
    refine hK.out _ _ HBE (fun hHeld => ?_)
    clear hK K
    try simp only [Act.put, jA, jB, jC, jD, jE, jF]
    refine wpAnyH_low (S' := fun V => Hid (Below wE.heap.size wE V)) (fun V hV => hid (below_step HBE.out hV.out)) _ _ _ _ ?_
    clear hHeld HBE
    have hHeld : Hid (Below wE.heap.size wE wE) := hid (Below.refl _ _)
    have HRNe := hid (HRNr.out.old HXE.out)
    refine rdH 6 (by kernel_rfl) rfl fun K hK => ?_
    go_simp
    have CQ := hid (zbytes_eq (HRM.out.old hHeld.out) (HRNe.out.old hHeld.out) HEQ1.out)
    go_wp2_with (first | (go_at_call 12; refine CQ.out.mono ?_; rintro en wF ⟨rfl, hbE⟩; have HBE := hid (below_step hHeld.out hbE); have HXF := hid (below_step HXE.out (below_step hHeld.out hbE)); clear hbE; have HCwF := hid (below_step HCwE.out HBE.out)))
    clear CQ hHeld
    refine hK.out _ _ HBE (fun hHeld => ?_)
    clear hK K
    try simp only [Act.put, jA, jB, jC, jD, jE, jF]
    refine wpAnyH_low (S' := fun V => Hid (Below wF.heap.size wF V)) (fun V hV => hid (below_step HBE.out hV.out)) _ _ _ _ ?_
    clear hHeld HBE
    have hHeld : Hid (Below wF.heap.size wF wF) := hid (Below.refl _ _)
    refine tkH 8 (.bool true) rfl (by kernel_rfl) (fun _ _ _ => False.elim) hHeld (Or.inl ⟨by rfl, fun W9 hW => by clear hHeld hW; simp only [jA, jB, jC]; go_simp⟩) ?_
    simp only [Act.put, jA, jB, jC, jD, jE, jF]
    refine tkH 9 (.bool true) rfl (by kernel_rfl) (fun _ _ _ => False.elim) hHeld (Or.inl ⟨by rfl, fun W9 hW => by clear hHeld hW; simp only [jA, jB, jC]; go_simp⟩) ?_
    simp only [Act.put, jA, jB, jC, jD, jE, jF]
    refine tkH 10 (.pointer (some ⟨gp, 0, none⟩)) rfl (by kernel_rfl) (fun _ _ _ => False.elim) hHeld (Or.inl ⟨by rfl, fun W9 hW => by clear hHeld hW; simp only [jA, jB, jC]; go_simp⟩) ?_
    simp only [Act.put, jA, jB, jC, jD, jE, jF]
    refine tkH 11 (.slice ek (entKey T X r).length ec) rfl (by kernel_rfl) (fun _ _ _ => False.elim) hHeld (Or.inl ⟨by rfl, fun W9 hW => by have h9 := (((below_step HXF.out hW.out)).block _ (lt_of_block HPr.out)).trans HPr.out; have p0 := cell_in h9 0 _ rfl; clear hHeld hW; simp only [jA, jB, jC]; go_simp⟩) ?_
    simp only [Act.put, jA, jB, jC, jD, jE, jF]
    refine tkH 12 (.pointer (some ⟨gq, 0, none⟩)) rfl (by kernel_rfl) (fun _ _ _ => False.elim) hHeld (Or.inl ⟨by rfl, fun W9 hW => by clear hHeld hW; simp only [jA, jB, jC]; go_simp⟩) ?_
    simp only [Act.put, jA, jB, jC, jD, jE, jF]
    refine tkH 13 (.slice fk (entKey T X s).length fc) rfl (by kernel_rfl) (fun _ _ _ => False.elim) hHeld (Or.inl ⟨by rfl, fun W9 hW => by have h9 := (((below_step HXF.out hW.out)).block _ (lt_of_block HQr.out)).trans HQr.out; have p0 := cell_in h9 0 _ rfl; clear hHeld hW; simp only [jA, jB, jC]; go_simp⟩) ?_
    simp only [Act.put, jA, jB, jC, jD, jE, jF]
    refine tkH 15 (.bool false) rfl (by kernel_rfl) (fun _ _ _ => False.elim) hHeld (Or.inl ⟨by rfl, fun W9 hW => by clear hHeld hW; simp only [jA, jB, jC]; go_simp⟩) ?_
    simp only [Act.put, jA, jB, jC, jD, jE, jF]
    have HEKe := hid (HEKr.out.old HXF.out)
    have HFKe := hid (HFKr.out.old HXF.out)
    refine rdH 14 (by kernel_rfl) rfl fun K hK => ?_
    go_simp
    have CQ := hid (zbytes_eq (HEKe.out.old hHeld.out) (HFKe.out.old hHeld.out) HEQ2.out)
    go_wp2_with (first | (go_at_call 12; refine CQ.out.mono ?_; rintro en wG ⟨rfl, hbE⟩; have HBE := hid (below_step hHeld.out hbE); clear hbE; have HCwG := hid (below_step HCwF.out HBE.out)))
    clear CQ hHeld
    refine hK.out _ _ HBE (fun hHeld => ?_)
    clear hK K
    try simp only [Act.put, jA, jB, jC, jD, jE, jF]
    refine wpAnyH_low (S' := fun V => Hid (Below wG.heap.size wG V)) (fun V hV => hid (below_step HBE.out hV.out)) _ _ _ _ ?_
    clear hHeld HBE
    have hHeld : Hid (Below wG.heap.size wG wG) := hid (Below.refl _ _)
    refine tkH 16 (.bool false) rfl (by kernel_rfl) (fun _ _ _ => False.elim) hHeld (Or.inl ⟨by rfl, fun W9 hW => by clear hHeld hW; simp only [jA, jB, jC]; go_simp⟩) ?_
    simp only [Act.put, jA, jB, jC, jD, jE, jF]
    refine tkH 17 (undef) rfl (by kernel_rfl) (fun _ _ _ => False.elim) hHeld (Or.inr ⟨by rfl, by rfl⟩) ?_
    simp only [Act.put, jA, jB, jC, jD, jE, jF]
    refine tkH 18 (undef) rfl (by kernel_rfl) (fun _ _ _ => False.elim) hHeld (Or.inr ⟨by rfl, by rfl⟩) ?_
    simp only [Act.put, jA, jB, jC, jD, jE, jF]
    refine tkH 19 (undef) rfl (by kernel_rfl) (fun _ _ _ => False.elim) hHeld (Or.inr ⟨by rfl, by rfl⟩) ?_
    simp only [Act.put, jA, jB, jC, jD, jE, jF]
    refine tkH 20 (undef) rfl (by kernel_rfl) (fun _ _ _ => False.elim) hHeld (Or.inr ⟨by rfl, by rfl⟩) ?_
    simp only [Act.put, jA, jB, jC, jD, jE, jF]
    refine tkH 21 (.bool false) rfl (by kernel_rfl) (fun _ _ _ => False.elim) hHeld (Or.inl ⟨by rfl, fun W9 hW => by clear hHeld hW; simp only [jA, jB, jC]; go_simp⟩) ?_
    simp only [Act.put, jA, jB, jC, jD, jE, jF]
    refine tkH 22 (.bool true) rfl (by kernel_rfl) (fun _ _ _ => False.elim) hHeld (Or.inl ⟨by rfl, fun W9 hW => by clear hHeld hW; simp only [jA, jB, jC]; go_simp⟩) ?_
    simp only [Act.put, jA, jB, jC, jD, jE, jF]
    refine tkH 23 (.bool true) rfl (by kernel_rfl) (fun _ _ _ => False.elim) hHeld (Or.inl ⟨by rfl, fun W9 hW => by clear hHeld hW; simp only [jA, jB, jC]; go_simp⟩) ?_
    simp only [Act.put, jA, jB, jC, jD, jE, jF]
    refine tkH 24 (.bool true) rfl (by kernel_rfl) (fun _ _ _ => False.elim) hHeld (Or.inl ⟨by rfl, fun W9 hW => by clear hHeld hW; simp only [jA, jB, jC]; go_simp⟩) ?_
    simp only [Act.put, jA, jB, jC, jD, jE, jF]
    refine wpAnyH_done (by kernel_rfl) (NoPanic.normal ?_) _
    clear hHeld
    go_wp2_with fail
    go_ret
    exact ⟨rfl, below_step HB.out HCwG.out⟩
  · simp only [Bool.false_and, Bool.true_and, Bool.false_or, Bool.true_or, Bool.and_true, Bool.and_false] at HEQ2
    refine wp_region_noPanic ?_
    refine wp_region_held_drew (S := fun V => Hid (Below wr.heap.size wr V)) (by kernel_rfl) (hid (Below.drew (Below.refl _ _))) (fun hHeld => ?_)
    generalize wr.drew = Wd at *
    have HCwr := HCr
    refine tkH 0 (.agg #[.int .i64 T.id, .string ⟨T.name.toArray⟩, .slice a1 T.cols.length e1, .slice a3 T.key.length e3]) rfl (by kernel_rfl) (fun _ _ _ => False.elim) hHeld (Or.inl ⟨by rfl, fun W9 hW => by obtain ⟨q0, q1, q2, q3, q4, q5, q6, q7, q8, q9, q10⟩ := HKT.out _ (below_step HCwr.out hW.out); clear hHeld hW; simp only [jA, jB, jC]; go_simp⟩) ?_
    simp only [Act.put, jA, jB, jC, jD, jE, jF]
    refine tkH 1 (.agg #[.int .i64 T.id, .string ⟨T.name.toArray⟩, .slice a1 T.cols.length e1, .slice a3 T.key.length e3]) rfl (by kernel_rfl) (fun _ _ _ => False.elim) hHeld (Or.inl ⟨by rfl, fun W9 hW => by obtain ⟨q0, q1, q2, q3, q4, q5, q6, q7, q8, q9, q10⟩ := HKT.out _ (below_step HCwr.out hW.out); clear hHeld hW; simp only [jA, jB, jC]; go_simp⟩) ?_
    simp only [Act.put, jA, jB, jC, jD, jE, jF]
    refine tkH 2 (.slice b3 s.length c3) rfl (by kernel_rfl) (fun _ _ _ => False.elim) hHeld (Or.inl ⟨by rfl, fun W9 hW => by clear hHeld hW; simp only [jA, jB, jC]; go_simp⟩) ?_
    simp only [Act.put, jA, jB, jC, jD, jE, jF]
    refine tkH 5 (.slice na (nameL T (pickL r T.key)).length nc) rfl (by kernel_rfl) (fun _ _ _ => False.elim) hHeld (Or.inl ⟨by rfl, fun W9 hW => by clear hHeld hW; simp only [jA, jB, jC]; go_simp⟩) ?_
    simp only [Act.put, jA, jB, jC, jD, jE, jF]
    refine tkH 7 (.bool true) rfl (by kernel_rfl) (fun _ _ _ => False.elim) hHeld (Or.inl ⟨by rfl, fun W9 hW => by clear hHeld hW; simp only [jA, jB, jC]; go_simp⟩) ?_
    simp only [Act.put, jA, jB, jC, jD, jE, jF]
    refine rdH 3 (by kernel_rfl) rfl fun K hK => ?_
    go_simp
    have CQ := hid (zkey_ok (HT2.out.old (below_step HCwr.out hHeld.out)) HTI.out.key (by have := HTI.out.keyl; omega) (HS2.out.old (below_step HCwr.out hHeld.out)) HSS.out.ok)
    go_wp2_with (first | (go_at_call 11; refine CQ.out.mono ?_; rintro en wD ⟨ja, jc, rfl, hvE, hbE⟩; have HBE := hid (below_step hHeld.out hbE); have HVB := hid hvE; have HXD := hid HBE.out; clear hvE hbE; have HCwD := hid (below_step HCwr.out HBE.out)))
    clear CQ hHeld
    refine hK.out _ _ HBE (fun hHeld => ?_)
    clear hK K
    try simp only [Act.put, jA, jB, jC, jD, jE, jF]
    refine wpAnyH_low (S' := fun V => Hid (Below wD.heap.size wD V)) (fun V hV => hid (below_step HBE.out hV.out)) _ _ _ _ ?_
    clear hHeld HBE
    have hHeld : Hid (Below wD.heap.size wD wD) := hid (Below.refl _ _)
    refine rdH 4 (by kernel_rfl) rfl fun K hK => ?_
    go_simp
    have CQ := hid (name_ok (HT2.out.old (below_step HCwD.out hHeld.out)) HTI.out.tid HTI.out.key (by have := HTI.out.keyl; omega) (HVB.out.old hHeld.out) HOB.out.inn HKB.out)
    go_wp2_with (first | (go_at_call 10; refine CQ.out.mono ?_; rintro en wE ⟨v2, rfl, hoE, hbE⟩; have HBE := hid (below_step hHeld.out hbE); obtain ⟨ma, mc, rfl, hrE⟩ := zown_rd hoE; have HRM := hid hrE; have HXE := hid (below_step HXD.out (below_step hHeld.out hbE)); clear hoE hrE hbE; have HCwE := hid (below_step HCwD.out HBE.out)))
    clear CQ hHeld
    refine hK.out _ _ HBE (fun hHeld => ?_)
    clear hK K
    try simp only [Act.put, jA, jB, jC, jD, jE, jF]
    refine wpAnyH_low (S' := fun V => Hid (Below wE.heap.size wE V)) (fun V hV => hid (below_step HBE.out hV.out)) _ _ _ _ ?_
    clear hHeld HBE
    have hHeld : Hid (Below wE.heap.size wE wE) := hid (Below.refl _ _)
    have HRNe := hid (HRNr.out.old HXE.out)
    refine rdH 6 (by kernel_rfl) rfl fun K hK => ?_
    go_simp
    have CQ := hid (zbytes_eq (HRM.out.old hHeld.out) (HRNe.out.old hHeld.out) HEQ1.out)
    go_wp2_with (first | (go_at_call 12; refine CQ.out.mono ?_; rintro en wF ⟨rfl, hbE⟩; have HBE := hid (below_step hHeld.out hbE); have HXF := hid (below_step HXE.out (below_step hHeld.out hbE)); clear hbE; have HCwF := hid (below_step HCwE.out HBE.out)))
    clear CQ hHeld
    refine hK.out _ _ HBE (fun hHeld => ?_)
    clear hK K
    try simp only [Act.put, jA, jB, jC, jD, jE, jF]
    refine wpAnyH_low (S' := fun V => Hid (Below wF.heap.size wF V)) (fun V hV => hid (below_step HBE.out hV.out)) _ _ _ _ ?_
    clear hHeld HBE
    have hHeld : Hid (Below wF.heap.size wF wF) := hid (Below.refl _ _)
    refine tkH 8 (.bool true) rfl (by kernel_rfl) (fun _ _ _ => False.elim) hHeld (Or.inl ⟨by rfl, fun W9 hW => by clear hHeld hW; simp only [jA, jB, jC]; go_simp⟩) ?_
    simp only [Act.put, jA, jB, jC, jD, jE, jF]
    refine tkH 9 (.bool true) rfl (by kernel_rfl) (fun _ _ _ => False.elim) hHeld (Or.inl ⟨by rfl, fun W9 hW => by clear hHeld hW; simp only [jA, jB, jC]; go_simp⟩) ?_
    simp only [Act.put, jA, jB, jC, jD, jE, jF]
    refine tkH 10 (.pointer (some ⟨gp, 0, none⟩)) rfl (by kernel_rfl) (fun _ _ _ => False.elim) hHeld (Or.inl ⟨by rfl, fun W9 hW => by clear hHeld hW; simp only [jA, jB, jC]; go_simp⟩) ?_
    simp only [Act.put, jA, jB, jC, jD, jE, jF]
    refine tkH 11 (.slice ek (entKey T X r).length ec) rfl (by kernel_rfl) (fun _ _ _ => False.elim) hHeld (Or.inl ⟨by rfl, fun W9 hW => by have h9 := (((below_step HXF.out hW.out)).block _ (lt_of_block HPr.out)).trans HPr.out; have p0 := cell_in h9 0 _ rfl; clear hHeld hW; simp only [jA, jB, jC]; go_simp⟩) ?_
    simp only [Act.put, jA, jB, jC, jD, jE, jF]
    refine tkH 12 (.pointer (some ⟨gq, 0, none⟩)) rfl (by kernel_rfl) (fun _ _ _ => False.elim) hHeld (Or.inl ⟨by rfl, fun W9 hW => by clear hHeld hW; simp only [jA, jB, jC]; go_simp⟩) ?_
    simp only [Act.put, jA, jB, jC, jD, jE, jF]
    refine tkH 13 (.slice fk (entKey T X s).length fc) rfl (by kernel_rfl) (fun _ _ _ => False.elim) hHeld (Or.inl ⟨by rfl, fun W9 hW => by have h9 := (((below_step HXF.out hW.out)).block _ (lt_of_block HQr.out)).trans HQr.out; have p0 := cell_in h9 0 _ rfl; clear hHeld hW; simp only [jA, jB, jC]; go_simp⟩) ?_
    simp only [Act.put, jA, jB, jC, jD, jE, jF]
    refine tkH 15 (.bool false) rfl (by kernel_rfl) (fun _ _ _ => False.elim) hHeld (Or.inl ⟨by rfl, fun W9 hW => by clear hHeld hW; simp only [jA, jB, jC]; go_simp⟩) ?_
    simp only [Act.put, jA, jB, jC, jD, jE, jF]
    have HEKe := hid (HEKr.out.old HXF.out)
    have HFKe := hid (HFKr.out.old HXF.out)
    refine rdH 14 (by kernel_rfl) rfl fun K hK => ?_
    go_simp
    have CQ := hid (zbytes_eq (HEKe.out.old hHeld.out) (HFKe.out.old hHeld.out) HEQ2.out)
    go_wp2_with (first | (go_at_call 12; refine CQ.out.mono ?_; rintro en wG ⟨rfl, hbE⟩; have HBE := hid (below_step hHeld.out hbE); clear hbE; have HCwG := hid (below_step HCwF.out HBE.out)))
    clear CQ hHeld
    refine hK.out _ _ HBE (fun hHeld => ?_)
    clear hK K
    try simp only [Act.put, jA, jB, jC, jD, jE, jF]
    refine wpAnyH_low (S' := fun V => Hid (Below wG.heap.size wG V)) (fun V hV => hid (below_step HBE.out hV.out)) _ _ _ _ ?_
    clear hHeld HBE
    have hHeld : Hid (Below wG.heap.size wG wG) := hid (Below.refl _ _)
    refine tkH 16 (.bool false) rfl (by kernel_rfl) (fun _ _ _ => False.elim) hHeld (Or.inl ⟨by rfl, fun W9 hW => by clear hHeld hW; simp only [jA, jB, jC]; go_simp⟩) ?_
    simp only [Act.put, jA, jB, jC, jD, jE, jF]
    refine tkH 17 (undef) rfl (by kernel_rfl) (fun _ _ _ => False.elim) hHeld (Or.inr ⟨by rfl, by rfl⟩) ?_
    simp only [Act.put, jA, jB, jC, jD, jE, jF]
    refine tkH 18 (undef) rfl (by kernel_rfl) (fun _ _ _ => False.elim) hHeld (Or.inr ⟨by rfl, by rfl⟩) ?_
    simp only [Act.put, jA, jB, jC, jD, jE, jF]
    refine tkH 19 (undef) rfl (by kernel_rfl) (fun _ _ _ => False.elim) hHeld (Or.inr ⟨by rfl, by rfl⟩) ?_
    simp only [Act.put, jA, jB, jC, jD, jE, jF]
    refine tkH 20 (undef) rfl (by kernel_rfl) (fun _ _ _ => False.elim) hHeld (Or.inr ⟨by rfl, by rfl⟩) ?_
    simp only [Act.put, jA, jB, jC, jD, jE, jF]
    refine tkH 21 (.bool false) rfl (by kernel_rfl) (fun _ _ _ => False.elim) hHeld (Or.inl ⟨by rfl, fun W9 hW => by clear hHeld hW; simp only [jA, jB, jC]; go_simp⟩) ?_
    simp only [Act.put, jA, jB, jC, jD, jE, jF]
    refine tkH 22 (.bool true) rfl (by kernel_rfl) (fun _ _ _ => False.elim) hHeld (Or.inl ⟨by rfl, fun W9 hW => by clear hHeld hW; simp only [jA, jB, jC]; go_simp⟩) ?_
    simp only [Act.put, jA, jB, jC, jD, jE, jF]
    refine tkH 23 (.bool true) rfl (by kernel_rfl) (fun _ _ _ => False.elim) hHeld (Or.inl ⟨by rfl, fun W9 hW => by clear hHeld hW; simp only [jA, jB, jC]; go_simp⟩) ?_
    simp only [Act.put, jA, jB, jC, jD, jE, jF]
    refine tkH 24 (.bool true) rfl (by kernel_rfl) (fun _ _ _ => False.elim) hHeld (Or.inl ⟨by rfl, fun W9 hW => by clear hHeld hW; simp only [jA, jB, jC]; go_simp⟩) ?_
    simp only [Act.put, jA, jB, jC, jD, jE, jF]
    refine wpAnyH_done (by kernel_rfl) (NoPanic.normal ?_) _
    clear hHeld
    go_wp2_with fail
    go_ret
    exact ⟨rfl, below_step HB.out HCwG.out⟩
  · simp only [Bool.false_and, Bool.true_and, Bool.false_or, Bool.true_or, Bool.and_true, Bool.and_false] at HEQ2
    refine wp_region_noPanic ?_
    refine wp_region_held_drew (S := fun V => Hid (Below wr.heap.size wr V)) (by kernel_rfl) (hid (Below.drew (Below.refl _ _))) (fun hHeld => ?_)
    generalize wr.drew = Wd at *
    have HCwr := HCr
    refine tkH 0 (.agg #[.int .i64 T.id, .string ⟨T.name.toArray⟩, .slice a1 T.cols.length e1, .slice a3 T.key.length e3]) rfl (by kernel_rfl) (fun _ _ _ => False.elim) hHeld (Or.inl ⟨by rfl, fun W9 hW => by obtain ⟨q0, q1, q2, q3, q4, q5, q6, q7, q8, q9, q10⟩ := HKT.out _ (below_step HCwr.out hW.out); clear hHeld hW; simp only [jA, jB, jC]; go_simp⟩) ?_
    simp only [Act.put, jA, jB, jC, jD, jE, jF]
    refine tkH 1 (.agg #[.int .i64 T.id, .string ⟨T.name.toArray⟩, .slice a1 T.cols.length e1, .slice a3 T.key.length e3]) rfl (by kernel_rfl) (fun _ _ _ => False.elim) hHeld (Or.inl ⟨by rfl, fun W9 hW => by obtain ⟨q0, q1, q2, q3, q4, q5, q6, q7, q8, q9, q10⟩ := HKT.out _ (below_step HCwr.out hW.out); clear hHeld hW; simp only [jA, jB, jC]; go_simp⟩) ?_
    simp only [Act.put, jA, jB, jC, jD, jE, jF]
    refine tkH 2 (.slice b3 s.length c3) rfl (by kernel_rfl) (fun _ _ _ => False.elim) hHeld (Or.inl ⟨by rfl, fun W9 hW => by clear hHeld hW; simp only [jA, jB, jC]; go_simp⟩) ?_
    simp only [Act.put, jA, jB, jC, jD, jE, jF]
    refine tkH 5 (.slice na (nameL T (pickL r T.key)).length nc) rfl (by kernel_rfl) (fun _ _ _ => False.elim) hHeld (Or.inl ⟨by rfl, fun W9 hW => by clear hHeld hW; simp only [jA, jB, jC]; go_simp⟩) ?_
    simp only [Act.put, jA, jB, jC, jD, jE, jF]
    refine tkH 7 (.bool false) rfl (by kernel_rfl) (fun _ _ _ => False.elim) hHeld (Or.inl ⟨by rfl, fun W9 hW => by clear hHeld hW; simp only [jA, jB, jC]; go_simp⟩) ?_
    simp only [Act.put, jA, jB, jC, jD, jE, jF]
    refine rdH 3 (by kernel_rfl) rfl fun K hK => ?_
    go_simp
    have CQ := hid (zkey_ok (HT2.out.old (below_step HCwr.out hHeld.out)) HTI.out.key (by have := HTI.out.keyl; omega) (HS2.out.old (below_step HCwr.out hHeld.out)) HSS.out.ok)
    go_wp2_with (first | (go_at_call 11; refine CQ.out.mono ?_; rintro en wD ⟨ja, jc, rfl, hvE, hbE⟩; have HBE := hid (below_step hHeld.out hbE); have HVB := hid hvE; have HXD := hid HBE.out; clear hvE hbE; have HCwD := hid (below_step HCwr.out HBE.out)))
    clear CQ hHeld
    refine hK.out _ _ HBE (fun hHeld => ?_)
    clear hK K
    try simp only [Act.put, jA, jB, jC, jD, jE, jF]
    refine wpAnyH_low (S' := fun V => Hid (Below wD.heap.size wD V)) (fun V hV => hid (below_step HBE.out hV.out)) _ _ _ _ ?_
    clear hHeld HBE
    have hHeld : Hid (Below wD.heap.size wD wD) := hid (Below.refl _ _)
    refine rdH 4 (by kernel_rfl) rfl fun K hK => ?_
    go_simp
    have CQ := hid (name_ok (HT2.out.old (below_step HCwD.out hHeld.out)) HTI.out.tid HTI.out.key (by have := HTI.out.keyl; omega) (HVB.out.old hHeld.out) HOB.out.inn HKB.out)
    go_wp2_with (first | (go_at_call 10; refine CQ.out.mono ?_; rintro en wE ⟨v2, rfl, hoE, hbE⟩; have HBE := hid (below_step hHeld.out hbE); obtain ⟨ma, mc, rfl, hrE⟩ := zown_rd hoE; have HRM := hid hrE; have HXE := hid (below_step HXD.out (below_step hHeld.out hbE)); clear hoE hrE hbE; have HCwE := hid (below_step HCwD.out HBE.out)))
    clear CQ hHeld
    refine hK.out _ _ HBE (fun hHeld => ?_)
    clear hK K
    try simp only [Act.put, jA, jB, jC, jD, jE, jF]
    refine wpAnyH_low (S' := fun V => Hid (Below wE.heap.size wE V)) (fun V hV => hid (below_step HBE.out hV.out)) _ _ _ _ ?_
    clear hHeld HBE
    have hHeld : Hid (Below wE.heap.size wE wE) := hid (Below.refl _ _)
    have HRNe := hid (HRNr.out.old HXE.out)
    refine rdH 6 (by kernel_rfl) rfl fun K hK => ?_
    go_simp
    have CQ := hid (zbytes_eq (HRM.out.old hHeld.out) (HRNe.out.old hHeld.out) HEQ1.out)
    go_wp2_with (first | (go_at_call 12; refine CQ.out.mono ?_; rintro en wF ⟨rfl, hbE⟩; have HBE := hid (below_step hHeld.out hbE); have HXF := hid (below_step HXE.out (below_step hHeld.out hbE)); clear hbE; have HCwF := hid (below_step HCwE.out HBE.out)))
    clear CQ hHeld
    refine hK.out _ _ HBE (fun hHeld => ?_)
    clear hK K
    try simp only [Act.put, jA, jB, jC, jD, jE, jF]
    refine wpAnyH_low (S' := fun V => Hid (Below wF.heap.size wF V)) (fun V hV => hid (below_step HBE.out hV.out)) _ _ _ _ ?_
    clear hHeld HBE
    have hHeld : Hid (Below wF.heap.size wF wF) := hid (Below.refl _ _)
    refine tkH 8 (.bool true) rfl (by kernel_rfl) (fun _ _ _ => False.elim) hHeld (Or.inl ⟨by rfl, fun W9 hW => by clear hHeld hW; simp only [jA, jB, jC]; go_simp⟩) ?_
    simp only [Act.put, jA, jB, jC, jD, jE, jF]
    refine tkH 9 (.bool true) rfl (by kernel_rfl) (fun _ _ _ => False.elim) hHeld (Or.inl ⟨by rfl, fun W9 hW => by clear hHeld hW; simp only [jA, jB, jC]; go_simp⟩) ?_
    simp only [Act.put, jA, jB, jC, jD, jE, jF]
    refine tkH 10 (.pointer (some ⟨gp, 0, none⟩)) rfl (by kernel_rfl) (fun _ _ _ => False.elim) hHeld (Or.inl ⟨by rfl, fun W9 hW => by clear hHeld hW; simp only [jA, jB, jC]; go_simp⟩) ?_
    simp only [Act.put, jA, jB, jC, jD, jE, jF]
    refine tkH 11 (.slice ek (entKey T X r).length ec) rfl (by kernel_rfl) (fun _ _ _ => False.elim) hHeld (Or.inl ⟨by rfl, fun W9 hW => by have h9 := (((below_step HXF.out hW.out)).block _ (lt_of_block HPr.out)).trans HPr.out; have p0 := cell_in h9 0 _ rfl; clear hHeld hW; simp only [jA, jB, jC]; go_simp⟩) ?_
    simp only [Act.put, jA, jB, jC, jD, jE, jF]
    refine tkH 12 (.pointer (some ⟨gq, 0, none⟩)) rfl (by kernel_rfl) (fun _ _ _ => False.elim) hHeld (Or.inl ⟨by rfl, fun W9 hW => by clear hHeld hW; simp only [jA, jB, jC]; go_simp⟩) ?_
    simp only [Act.put, jA, jB, jC, jD, jE, jF]
    refine tkH 13 (.slice fk (entKey T X s).length fc) rfl (by kernel_rfl) (fun _ _ _ => False.elim) hHeld (Or.inl ⟨by rfl, fun W9 hW => by have h9 := (((below_step HXF.out hW.out)).block _ (lt_of_block HQr.out)).trans HQr.out; have p0 := cell_in h9 0 _ rfl; clear hHeld hW; simp only [jA, jB, jC]; go_simp⟩) ?_
    simp only [Act.put, jA, jB, jC, jD, jE, jF]
    refine tkH 15 (.bool true) rfl (by kernel_rfl) (fun _ _ _ => False.elim) hHeld (Or.inl ⟨by rfl, fun W9 hW => by clear hHeld hW; simp only [jA, jB, jC]; go_simp⟩) ?_
    simp only [Act.put, jA, jB, jC, jD, jE, jF]
    have HEKe := hid (HEKr.out.old HXF.out)
    have HFKe := hid (HFKr.out.old HXF.out)
    refine rdH 14 (by kernel_rfl) rfl fun K hK => ?_
    go_simp
    have CQ := hid (zbytes_eq (HEKe.out.old hHeld.out) (HFKe.out.old hHeld.out) HEQ2.out)
    go_wp2_with (first | (go_at_call 12; refine CQ.out.mono ?_; rintro en wG ⟨rfl, hbE⟩; have HBE := hid (below_step hHeld.out hbE); clear hbE; have HCwG := hid (below_step HCwF.out HBE.out)))
    clear CQ hHeld
    refine hK.out _ _ HBE (fun hHeld => ?_)
    clear hK K
    try simp only [Act.put, jA, jB, jC, jD, jE, jF]
    refine wpAnyH_low (S' := fun V => Hid (Below wG.heap.size wG V)) (fun V hV => hid (below_step HBE.out hV.out)) _ _ _ _ ?_
    clear hHeld HBE
    have hHeld : Hid (Below wG.heap.size wG wG) := hid (Below.refl _ _)
    refine tkH 16 (.bool true) rfl (by kernel_rfl) (fun _ _ _ => False.elim) hHeld (Or.inl ⟨by rfl, fun W9 hW => by clear hHeld hW; simp only [jA, jB, jC]; go_simp⟩) ?_
    simp only [Act.put, jA, jB, jC, jD, jE, jF]
    refine tkH 17 (.bool false) rfl (by kernel_rfl) (fun _ _ _ => False.elim) hHeld (Or.inl ⟨by rfl, fun W9 hW => by clear hHeld hW; simp only [jA, jB, jC]; go_simp⟩) ?_
    simp only [Act.put, jA, jB, jC, jD, jE, jF]
    refine tkH 18 (.bool false) rfl (by kernel_rfl) (fun _ _ _ => False.elim) hHeld (Or.inl ⟨by rfl, fun W9 hW => by clear hHeld hW; simp only [jA, jB, jC]; go_simp⟩) ?_
    simp only [Act.put, jA, jB, jC, jD, jE, jF]
    refine tkH 19 (.bool false) rfl (by kernel_rfl) (fun _ _ _ => False.elim) hHeld (Or.inl ⟨by rfl, fun W9 hW => by clear hHeld hW; simp only [jA, jB, jC]; go_simp⟩) ?_
    simp only [Act.put, jA, jB, jC, jD, jE, jF]
    refine tkH 20 (.bool false) rfl (by kernel_rfl) (fun _ _ _ => False.elim) hHeld (Or.inl ⟨by rfl, fun W9 hW => by clear hHeld hW; simp only [jA, jB, jC]; go_simp⟩) ?_
    simp only [Act.put, jA, jB, jC, jD, jE, jF]
    refine tkH 21 (.bool false) rfl (by kernel_rfl) (fun _ _ _ => False.elim) hHeld (Or.inl ⟨by rfl, fun W9 hW => by clear hHeld hW; simp only [jA, jB, jC]; go_simp⟩) ?_
    simp only [Act.put, jA, jB, jC, jD, jE, jF]
    refine tkH 22 (.bool true) rfl (by kernel_rfl) (fun _ _ _ => False.elim) hHeld (Or.inl ⟨by rfl, fun W9 hW => by clear hHeld hW; simp only [jA, jB, jC]; go_simp⟩) ?_
    simp only [Act.put, jA, jB, jC, jD, jE, jF]
    refine tkH 23 (.bool true) rfl (by kernel_rfl) (fun _ _ _ => False.elim) hHeld (Or.inl ⟨by rfl, fun W9 hW => by clear hHeld hW; simp only [jA, jB, jC]; go_simp⟩) ?_
    simp only [Act.put, jA, jB, jC, jD, jE, jF]
    refine tkH 24 (.bool true) rfl (by kernel_rfl) (fun _ _ _ => False.elim) hHeld (Or.inl ⟨by rfl, fun W9 hW => by clear hHeld hW; simp only [jA, jB, jC]; go_simp⟩) ?_
    simp only [Act.put, jA, jB, jC, jD, jE, jF]
    refine wpAnyH_done (by kernel_rfl) (NoPanic.normal ?_) _
    clear hHeld
    go_wp2_with fail
    go_ret
    exact ⟨rfl, below_step HB.out HCwG.out⟩
  · simp only [Bool.false_and, Bool.true_and, Bool.false_or, Bool.true_or, Bool.and_true, Bool.and_false] at HEQ2
    refine wp_region_noPanic ?_
    refine wp_region_held_drew (S := fun V => Hid (Below wr.heap.size wr V)) (by kernel_rfl) (hid (Below.drew (Below.refl _ _))) (fun hHeld => ?_)
    generalize wr.drew = Wd at *
    have HCwr := HCr
    refine tkH 0 (.agg #[.int .i64 T.id, .string ⟨T.name.toArray⟩, .slice a1 T.cols.length e1, .slice a3 T.key.length e3]) rfl (by kernel_rfl) (fun _ _ _ => False.elim) hHeld (Or.inl ⟨by rfl, fun W9 hW => by obtain ⟨q0, q1, q2, q3, q4, q5, q6, q7, q8, q9, q10⟩ := HKT.out _ (below_step HCwr.out hW.out); clear hHeld hW; simp only [jA, jB, jC]; go_simp⟩) ?_
    simp only [Act.put, jA, jB, jC, jD, jE, jF]
    refine tkH 1 (.agg #[.int .i64 T.id, .string ⟨T.name.toArray⟩, .slice a1 T.cols.length e1, .slice a3 T.key.length e3]) rfl (by kernel_rfl) (fun _ _ _ => False.elim) hHeld (Or.inl ⟨by rfl, fun W9 hW => by obtain ⟨q0, q1, q2, q3, q4, q5, q6, q7, q8, q9, q10⟩ := HKT.out _ (below_step HCwr.out hW.out); clear hHeld hW; simp only [jA, jB, jC]; go_simp⟩) ?_
    simp only [Act.put, jA, jB, jC, jD, jE, jF]
    refine tkH 2 (.slice b3 s.length c3) rfl (by kernel_rfl) (fun _ _ _ => False.elim) hHeld (Or.inl ⟨by rfl, fun W9 hW => by clear hHeld hW; simp only [jA, jB, jC]; go_simp⟩) ?_
    simp only [Act.put, jA, jB, jC, jD, jE, jF]
    refine tkH 5 (.slice na (nameL T (pickL r T.key)).length nc) rfl (by kernel_rfl) (fun _ _ _ => False.elim) hHeld (Or.inl ⟨by rfl, fun W9 hW => by clear hHeld hW; simp only [jA, jB, jC]; go_simp⟩) ?_
    simp only [Act.put, jA, jB, jC, jD, jE, jF]
    refine tkH 7 (.bool true) rfl (by kernel_rfl) (fun _ _ _ => False.elim) hHeld (Or.inl ⟨by rfl, fun W9 hW => by clear hHeld hW; simp only [jA, jB, jC]; go_simp⟩) ?_
    simp only [Act.put, jA, jB, jC, jD, jE, jF]
    refine rdH 3 (by kernel_rfl) rfl fun K hK => ?_
    go_simp
    have CQ := hid (zkey_ok (HT2.out.old (below_step HCwr.out hHeld.out)) HTI.out.key (by have := HTI.out.keyl; omega) (HS2.out.old (below_step HCwr.out hHeld.out)) HSS.out.ok)
    go_wp2_with (first | (go_at_call 11; refine CQ.out.mono ?_; rintro en wD ⟨ja, jc, rfl, hvE, hbE⟩; have HBE := hid (below_step hHeld.out hbE); have HVB := hid hvE; have HXD := hid HBE.out; clear hvE hbE; have HCwD := hid (below_step HCwr.out HBE.out)))
    clear CQ hHeld
    refine hK.out _ _ HBE (fun hHeld => ?_)
    clear hK K
    try simp only [Act.put, jA, jB, jC, jD, jE, jF]
    refine wpAnyH_low (S' := fun V => Hid (Below wD.heap.size wD V)) (fun V hV => hid (below_step HBE.out hV.out)) _ _ _ _ ?_
    clear hHeld HBE
    have hHeld : Hid (Below wD.heap.size wD wD) := hid (Below.refl _ _)
    refine rdH 4 (by kernel_rfl) rfl fun K hK => ?_
    go_simp
    have CQ := hid (name_ok (HT2.out.old (below_step HCwD.out hHeld.out)) HTI.out.tid HTI.out.key (by have := HTI.out.keyl; omega) (HVB.out.old hHeld.out) HOB.out.inn HKB.out)
    go_wp2_with (first | (go_at_call 10; refine CQ.out.mono ?_; rintro en wE ⟨v2, rfl, hoE, hbE⟩; have HBE := hid (below_step hHeld.out hbE); obtain ⟨ma, mc, rfl, hrE⟩ := zown_rd hoE; have HRM := hid hrE; have HXE := hid (below_step HXD.out (below_step hHeld.out hbE)); clear hoE hrE hbE; have HCwE := hid (below_step HCwD.out HBE.out)))
    clear CQ hHeld
    refine hK.out _ _ HBE (fun hHeld => ?_)
    clear hK K
    try simp only [Act.put, jA, jB, jC, jD, jE, jF]
    refine wpAnyH_low (S' := fun V => Hid (Below wE.heap.size wE V)) (fun V hV => hid (below_step HBE.out hV.out)) _ _ _ _ ?_
    clear hHeld HBE
    have hHeld : Hid (Below wE.heap.size wE wE) := hid (Below.refl _ _)
    have HRNe := hid (HRNr.out.old HXE.out)
    refine rdH 6 (by kernel_rfl) rfl fun K hK => ?_
    go_simp
    have CQ := hid (zbytes_eq (HRM.out.old hHeld.out) (HRNe.out.old hHeld.out) HEQ1.out)
    go_wp2_with (first | (go_at_call 12; refine CQ.out.mono ?_; rintro en wF ⟨rfl, hbE⟩; have HBE := hid (below_step hHeld.out hbE); have HXF := hid (below_step HXE.out (below_step hHeld.out hbE)); clear hbE; have HCwF := hid (below_step HCwE.out HBE.out)))
    clear CQ hHeld
    refine hK.out _ _ HBE (fun hHeld => ?_)
    clear hK K
    try simp only [Act.put, jA, jB, jC, jD, jE, jF]
    refine wpAnyH_low (S' := fun V => Hid (Below wF.heap.size wF V)) (fun V hV => hid (below_step HBE.out hV.out)) _ _ _ _ ?_
    clear hHeld HBE
    have hHeld : Hid (Below wF.heap.size wF wF) := hid (Below.refl _ _)
    refine tkH 8 (.bool true) rfl (by kernel_rfl) (fun _ _ _ => False.elim) hHeld (Or.inl ⟨by rfl, fun W9 hW => by clear hHeld hW; simp only [jA, jB, jC]; go_simp⟩) ?_
    simp only [Act.put, jA, jB, jC, jD, jE, jF]
    refine tkH 9 (.bool true) rfl (by kernel_rfl) (fun _ _ _ => False.elim) hHeld (Or.inl ⟨by rfl, fun W9 hW => by clear hHeld hW; simp only [jA, jB, jC]; go_simp⟩) ?_
    simp only [Act.put, jA, jB, jC, jD, jE, jF]
    refine tkH 10 (.pointer (some ⟨gp, 0, none⟩)) rfl (by kernel_rfl) (fun _ _ _ => False.elim) hHeld (Or.inl ⟨by rfl, fun W9 hW => by clear hHeld hW; simp only [jA, jB, jC]; go_simp⟩) ?_
    simp only [Act.put, jA, jB, jC, jD, jE, jF]
    refine tkH 11 (.slice ek (entKey T X r).length ec) rfl (by kernel_rfl) (fun _ _ _ => False.elim) hHeld (Or.inl ⟨by rfl, fun W9 hW => by have h9 := (((below_step HXF.out hW.out)).block _ (lt_of_block HPr.out)).trans HPr.out; have p0 := cell_in h9 0 _ rfl; clear hHeld hW; simp only [jA, jB, jC]; go_simp⟩) ?_
    simp only [Act.put, jA, jB, jC, jD, jE, jF]
    refine tkH 12 (.pointer (some ⟨gq, 0, none⟩)) rfl (by kernel_rfl) (fun _ _ _ => False.elim) hHeld (Or.inl ⟨by rfl, fun W9 hW => by clear hHeld hW; simp only [jA, jB, jC]; go_simp⟩) ?_
    simp only [Act.put, jA, jB, jC, jD, jE, jF]
    refine tkH 13 (.slice fk (entKey T X s).length fc) rfl (by kernel_rfl) (fun _ _ _ => False.elim) hHeld (Or.inl ⟨by rfl, fun W9 hW => by have h9 := (((below_step HXF.out hW.out)).block _ (lt_of_block HQr.out)).trans HQr.out; have p0 := cell_in h9 0 _ rfl; clear hHeld hW; simp only [jA, jB, jC]; go_simp⟩) ?_
    simp only [Act.put, jA, jB, jC, jD, jE, jF]
    refine tkH 15 (.bool true) rfl (by kernel_rfl) (fun _ _ _ => False.elim) hHeld (Or.inl ⟨by rfl, fun W9 hW => by clear hHeld hW; simp only [jA, jB, jC]; go_simp⟩) ?_
    simp only [Act.put, jA, jB, jC, jD, jE, jF]
    have HEKe := hid (HEKr.out.old HXF.out)
    have HFKe := hid (HFKr.out.old HXF.out)
    refine rdH 14 (by kernel_rfl) rfl fun K hK => ?_
    go_simp
    have CQ := hid (zbytes_eq (HEKe.out.old hHeld.out) (HFKe.out.old hHeld.out) HEQ2.out)
    go_wp2_with (first | (go_at_call 12; refine CQ.out.mono ?_; rintro en wG ⟨rfl, hbE⟩; have HBE := hid (below_step hHeld.out hbE); clear hbE; have HCwG := hid (below_step HCwF.out HBE.out)))
    clear CQ hHeld
    refine hK.out _ _ HBE (fun hHeld => ?_)
    clear hK K
    try simp only [Act.put, jA, jB, jC, jD, jE, jF]
    refine wpAnyH_low (S' := fun V => Hid (Below wG.heap.size wG V)) (fun V hV => hid (below_step HBE.out hV.out)) _ _ _ _ ?_
    clear hHeld HBE
    have hHeld : Hid (Below wG.heap.size wG wG) := hid (Below.refl _ _)
    refine tkH 16 (.bool true) rfl (by kernel_rfl) (fun _ _ _ => False.elim) hHeld (Or.inl ⟨by rfl, fun W9 hW => by clear hHeld hW; simp only [jA, jB, jC]; go_simp⟩) ?_
    simp only [Act.put, jA, jB, jC, jD, jE, jF]
    refine tkH 17 (.bool false) rfl (by kernel_rfl) (fun _ _ _ => False.elim) hHeld (Or.inl ⟨by rfl, fun W9 hW => by clear hHeld hW; simp only [jA, jB, jC]; go_simp⟩) ?_
    simp only [Act.put, jA, jB, jC, jD, jE, jF]
    refine tkH 18 (.bool false) rfl (by kernel_rfl) (fun _ _ _ => False.elim) hHeld (Or.inl ⟨by rfl, fun W9 hW => by clear hHeld hW; simp only [jA, jB, jC]; go_simp⟩) ?_
    simp only [Act.put, jA, jB, jC, jD, jE, jF]
    refine tkH 19 (.bool true) rfl (by kernel_rfl) (fun _ _ _ => False.elim) hHeld (Or.inl ⟨by rfl, fun W9 hW => by clear hHeld hW; simp only [jA, jB, jC]; go_simp⟩) ?_
    simp only [Act.put, jA, jB, jC, jD, jE, jF]
    refine tkH 20 (.bool true) rfl (by kernel_rfl) (fun _ _ _ => False.elim) hHeld (Or.inl ⟨by rfl, fun W9 hW => by clear hHeld hW; simp only [jA, jB, jC]; go_simp⟩) ?_
    simp only [Act.put, jA, jB, jC, jD, jE, jF]
    refine tkH 21 (.bool true) rfl (by kernel_rfl) (fun _ _ _ => False.elim) hHeld (Or.inl ⟨by rfl, fun W9 hW => by clear hHeld hW; simp only [jA, jB, jC]; go_simp⟩) ?_
    simp only [Act.put, jA, jB, jC, jD, jE, jF]
    refine tkH 22 (.bool true) rfl (by kernel_rfl) (fun _ _ _ => False.elim) hHeld (Or.inl ⟨by rfl, fun W9 hW => by clear hHeld hW; simp only [jA, jB, jC]; go_simp⟩) ?_
    simp only [Act.put, jA, jB, jC, jD, jE, jF]
    refine tkH 23 (.bool true) rfl (by kernel_rfl) (fun _ _ _ => False.elim) hHeld (Or.inl ⟨by rfl, fun W9 hW => by clear hHeld hW; simp only [jA, jB, jC]; go_simp⟩) ?_
    simp only [Act.put, jA, jB, jC, jD, jE, jF]
    refine tkH 24 (.bool true) rfl (by kernel_rfl) (fun _ _ _ => False.elim) hHeld (Or.inl ⟨by rfl, fun W9 hW => by clear hHeld hW; simp only [jA, jB, jC]; go_simp⟩) ?_
    simp only [Act.put, jA, jB, jC, jD, jE, jF]
    refine wpAnyH_done (by kernel_rfl) (NoPanic.normal ?_) _
    clear hHeld
    go_wp2_with fail
    go_ret
    exact ⟨rfl, below_step HB.out HCwG.out⟩
  · simp only [Bool.false_and, Bool.true_and, Bool.false_or, Bool.true_or, Bool.and_true, Bool.and_false] at HEQ2
    refine wp_region_noPanic ?_
    refine wp_region_held_drew (S := fun V => Hid (Below wr.heap.size wr V)) (by kernel_rfl) (hid (Below.drew (Below.refl _ _))) (fun hHeld => ?_)
    generalize wr.drew = Wd at *
    have HCwr := HCr
    refine tkH 0 (.agg #[.int .i64 T.id, .string ⟨T.name.toArray⟩, .slice a1 T.cols.length e1, .slice a3 T.key.length e3]) rfl (by kernel_rfl) (fun _ _ _ => False.elim) hHeld (Or.inl ⟨by rfl, fun W9 hW => by obtain ⟨q0, q1, q2, q3, q4, q5, q6, q7, q8, q9, q10⟩ := HKT.out _ (below_step HCwr.out hW.out); clear hHeld hW; simp only [jA, jB, jC]; go_simp⟩) ?_
    simp only [Act.put, jA, jB, jC, jD, jE, jF]
    refine tkH 1 (.agg #[.int .i64 T.id, .string ⟨T.name.toArray⟩, .slice a1 T.cols.length e1, .slice a3 T.key.length e3]) rfl (by kernel_rfl) (fun _ _ _ => False.elim) hHeld (Or.inl ⟨by rfl, fun W9 hW => by obtain ⟨q0, q1, q2, q3, q4, q5, q6, q7, q8, q9, q10⟩ := HKT.out _ (below_step HCwr.out hW.out); clear hHeld hW; simp only [jA, jB, jC]; go_simp⟩) ?_
    simp only [Act.put, jA, jB, jC, jD, jE, jF]
    refine tkH 2 (.slice b3 s.length c3) rfl (by kernel_rfl) (fun _ _ _ => False.elim) hHeld (Or.inl ⟨by rfl, fun W9 hW => by clear hHeld hW; simp only [jA, jB, jC]; go_simp⟩) ?_
    simp only [Act.put, jA, jB, jC, jD, jE, jF]
    refine tkH 5 (.slice na (nameL T (pickL r T.key)).length nc) rfl (by kernel_rfl) (fun _ _ _ => False.elim) hHeld (Or.inl ⟨by rfl, fun W9 hW => by clear hHeld hW; simp only [jA, jB, jC]; go_simp⟩) ?_
    simp only [Act.put, jA, jB, jC, jD, jE, jF]
    refine tkH 7 (.bool false) rfl (by kernel_rfl) (fun _ _ _ => False.elim) hHeld (Or.inl ⟨by rfl, fun W9 hW => by clear hHeld hW; simp only [jA, jB, jC]; go_simp⟩) ?_
    simp only [Act.put, jA, jB, jC, jD, jE, jF]
    refine rdH 3 (by kernel_rfl) rfl fun K hK => ?_
    go_simp
    have CQ := hid (zkey_ok (HT2.out.old (below_step HCwr.out hHeld.out)) HTI.out.key (by have := HTI.out.keyl; omega) (HS2.out.old (below_step HCwr.out hHeld.out)) HSS.out.ok)
    go_wp2_with (first | (go_at_call 11; refine CQ.out.mono ?_; rintro en wD ⟨ja, jc, rfl, hvE, hbE⟩; have HBE := hid (below_step hHeld.out hbE); have HVB := hid hvE; have HXD := hid HBE.out; clear hvE hbE; have HCwD := hid (below_step HCwr.out HBE.out)))
    clear CQ hHeld
    refine hK.out _ _ HBE (fun hHeld => ?_)
    clear hK K
    try simp only [Act.put, jA, jB, jC, jD, jE, jF]
    refine wpAnyH_low (S' := fun V => Hid (Below wD.heap.size wD V)) (fun V hV => hid (below_step HBE.out hV.out)) _ _ _ _ ?_
    clear hHeld HBE
    have hHeld : Hid (Below wD.heap.size wD wD) := hid (Below.refl _ _)
    refine rdH 4 (by kernel_rfl) rfl fun K hK => ?_
    go_simp
    have CQ := hid (name_ok (HT2.out.old (below_step HCwD.out hHeld.out)) HTI.out.tid HTI.out.key (by have := HTI.out.keyl; omega) (HVB.out.old hHeld.out) HOB.out.inn HKB.out)
    go_wp2_with (first | (go_at_call 10; refine CQ.out.mono ?_; rintro en wE ⟨v2, rfl, hoE, hbE⟩; have HBE := hid (below_step hHeld.out hbE); obtain ⟨ma, mc, rfl, hrE⟩ := zown_rd hoE; have HRM := hid hrE; have HXE := hid (below_step HXD.out (below_step hHeld.out hbE)); clear hoE hrE hbE; have HCwE := hid (below_step HCwD.out HBE.out)))
    clear CQ hHeld
    refine hK.out _ _ HBE (fun hHeld => ?_)
    clear hK K
    try simp only [Act.put, jA, jB, jC, jD, jE, jF]
    refine wpAnyH_low (S' := fun V => Hid (Below wE.heap.size wE V)) (fun V hV => hid (below_step HBE.out hV.out)) _ _ _ _ ?_
    clear hHeld HBE
    have hHeld : Hid (Below wE.heap.size wE wE) := hid (Below.refl _ _)
    have HRNe := hid (HRNr.out.old HXE.out)
    refine rdH 6 (by kernel_rfl) rfl fun K hK => ?_
    go_simp
    have CQ := hid (zbytes_eq (HRM.out.old hHeld.out) (HRNe.out.old hHeld.out) HEQ1.out)
    go_wp2_with (first | (go_at_call 12; refine CQ.out.mono ?_; rintro en wF ⟨rfl, hbE⟩; have HBE := hid (below_step hHeld.out hbE); have HXF := hid (below_step HXE.out (below_step hHeld.out hbE)); clear hbE; have HCwF := hid (below_step HCwE.out HBE.out)))
    clear CQ hHeld
    refine hK.out _ _ HBE (fun hHeld => ?_)
    clear hK K
    try simp only [Act.put, jA, jB, jC, jD, jE, jF]
    refine wpAnyH_low (S' := fun V => Hid (Below wF.heap.size wF V)) (fun V hV => hid (below_step HBE.out hV.out)) _ _ _ _ ?_
    clear hHeld HBE
    have hHeld : Hid (Below wF.heap.size wF wF) := hid (Below.refl _ _)
    refine tkH 8 (.bool true) rfl (by kernel_rfl) (fun _ _ _ => False.elim) hHeld (Or.inl ⟨by rfl, fun W9 hW => by clear hHeld hW; simp only [jA, jB, jC]; go_simp⟩) ?_
    simp only [Act.put, jA, jB, jC, jD, jE, jF]
    refine tkH 9 (.bool true) rfl (by kernel_rfl) (fun _ _ _ => False.elim) hHeld (Or.inl ⟨by rfl, fun W9 hW => by clear hHeld hW; simp only [jA, jB, jC]; go_simp⟩) ?_
    simp only [Act.put, jA, jB, jC, jD, jE, jF]
    refine tkH 10 (.pointer (some ⟨gp, 0, none⟩)) rfl (by kernel_rfl) (fun _ _ _ => False.elim) hHeld (Or.inl ⟨by rfl, fun W9 hW => by clear hHeld hW; simp only [jA, jB, jC]; go_simp⟩) ?_
    simp only [Act.put, jA, jB, jC, jD, jE, jF]
    refine tkH 11 (.slice ek (entKey T X r).length ec) rfl (by kernel_rfl) (fun _ _ _ => False.elim) hHeld (Or.inl ⟨by rfl, fun W9 hW => by have h9 := (((below_step HXF.out hW.out)).block _ (lt_of_block HPr.out)).trans HPr.out; have p0 := cell_in h9 0 _ rfl; clear hHeld hW; simp only [jA, jB, jC]; go_simp⟩) ?_
    simp only [Act.put, jA, jB, jC, jD, jE, jF]
    refine tkH 12 (.pointer (some ⟨gq, 0, none⟩)) rfl (by kernel_rfl) (fun _ _ _ => False.elim) hHeld (Or.inl ⟨by rfl, fun W9 hW => by clear hHeld hW; simp only [jA, jB, jC]; go_simp⟩) ?_
    simp only [Act.put, jA, jB, jC, jD, jE, jF]
    refine tkH 13 (.slice fk (entKey T X s).length fc) rfl (by kernel_rfl) (fun _ _ _ => False.elim) hHeld (Or.inl ⟨by rfl, fun W9 hW => by have h9 := (((below_step HXF.out hW.out)).block _ (lt_of_block HQr.out)).trans HQr.out; have p0 := cell_in h9 0 _ rfl; clear hHeld hW; simp only [jA, jB, jC]; go_simp⟩) ?_
    simp only [Act.put, jA, jB, jC, jD, jE, jF]
    refine tkH 15 (.bool true) rfl (by kernel_rfl) (fun _ _ _ => False.elim) hHeld (Or.inl ⟨by rfl, fun W9 hW => by clear hHeld hW; simp only [jA, jB, jC]; go_simp⟩) ?_
    simp only [Act.put, jA, jB, jC, jD, jE, jF]
    have HEKe := hid (HEKr.out.old HXF.out)
    have HFKe := hid (HFKr.out.old HXF.out)
    refine rdH 14 (by kernel_rfl) rfl fun K hK => ?_
    go_simp
    have CQ := hid (zbytes_eq (HEKe.out.old hHeld.out) (HFKe.out.old hHeld.out) HEQ2.out)
    go_wp2_with (first | (go_at_call 12; refine CQ.out.mono ?_; rintro en wG ⟨rfl, hbE⟩; have HBE := hid (below_step hHeld.out hbE); clear hbE; have HCwG := hid (below_step HCwF.out HBE.out)))
    clear CQ hHeld
    refine hK.out _ _ HBE (fun hHeld => ?_)
    clear hK K
    try simp only [Act.put, jA, jB, jC, jD, jE, jF]
    refine wpAnyH_low (S' := fun V => Hid (Below wG.heap.size wG V)) (fun V hV => hid (below_step HBE.out hV.out)) _ _ _ _ ?_
    clear hHeld HBE
    have hHeld : Hid (Below wG.heap.size wG wG) := hid (Below.refl _ _)
    refine tkH 16 (.bool true) rfl (by kernel_rfl) (fun _ _ _ => False.elim) hHeld (Or.inl ⟨by rfl, fun W9 hW => by clear hHeld hW; simp only [jA, jB, jC]; go_simp⟩) ?_
    simp only [Act.put, jA, jB, jC, jD, jE, jF]
    refine tkH 17 (.bool true) rfl (by kernel_rfl) (fun _ _ _ => False.elim) hHeld (Or.inl ⟨by rfl, fun W9 hW => by clear hHeld hW; simp only [jA, jB, jC]; go_simp⟩) ?_
    simp only [Act.put, jA, jB, jC, jD, jE, jF]
    refine tkH 18 (.bool true) rfl (by kernel_rfl) (fun _ _ _ => False.elim) hHeld (Or.inl ⟨by rfl, fun W9 hW => by clear hHeld hW; simp only [jA, jB, jC]; go_simp⟩) ?_
    simp only [Act.put, jA, jB, jC, jD, jE, jF]
    refine tkH 19 (undef) rfl (by kernel_rfl) (fun _ _ _ => False.elim) hHeld (Or.inr ⟨by rfl, by rfl⟩) ?_
    simp only [Act.put, jA, jB, jC, jD, jE, jF]
    refine tkH 20 (.bool true) rfl (by kernel_rfl) (fun _ _ _ => False.elim) hHeld (Or.inl ⟨by rfl, fun W9 hW => by clear hHeld hW; simp only [jA, jB, jC]; go_simp⟩) ?_
    simp only [Act.put, jA, jB, jC, jD, jE, jF]
    refine tkH 21 (.bool true) rfl (by kernel_rfl) (fun _ _ _ => False.elim) hHeld (Or.inl ⟨by rfl, fun W9 hW => by clear hHeld hW; simp only [jA, jB, jC]; go_simp⟩) ?_
    simp only [Act.put, jA, jB, jC, jD, jE, jF]
    refine tkH 22 (.bool true) rfl (by kernel_rfl) (fun _ _ _ => False.elim) hHeld (Or.inl ⟨by rfl, fun W9 hW => by clear hHeld hW; simp only [jA, jB, jC]; go_simp⟩) ?_
    simp only [Act.put, jA, jB, jC, jD, jE, jF]
    refine tkH 23 (.bool true) rfl (by kernel_rfl) (fun _ _ _ => False.elim) hHeld (Or.inl ⟨by rfl, fun W9 hW => by clear hHeld hW; simp only [jA, jB, jC]; go_simp⟩) ?_
    simp only [Act.put, jA, jB, jC, jD, jE, jF]
    refine tkH 24 (.bool true) rfl (by kernel_rfl) (fun _ _ _ => False.elim) hHeld (Or.inl ⟨by rfl, fun W9 hW => by clear hHeld hW; simp only [jA, jB, jC]; go_simp⟩) ?_
    simp only [Act.put, jA, jB, jC, jD, jE, jF]
    refine wpAnyH_done (by kernel_rfl) (NoPanic.normal ?_) _
    clear hHeld
    go_wp2_with fail
    go_ret
    exact ⟨rfl, below_step HB.out HCwG.out⟩
  · simp only [Bool.false_and, Bool.true_and, Bool.false_or, Bool.true_or, Bool.and_true, Bool.and_false] at HEQ2
    refine wp_region_noPanic ?_
    refine wp_region_held_drew (S := fun V => Hid (Below wr.heap.size wr V)) (by kernel_rfl) (hid (Below.drew (Below.refl _ _))) (fun hHeld => ?_)
    generalize wr.drew = Wd at *
    have HCwr := HCr
    refine tkH 0 (.agg #[.int .i64 T.id, .string ⟨T.name.toArray⟩, .slice a1 T.cols.length e1, .slice a3 T.key.length e3]) rfl (by kernel_rfl) (fun _ _ _ => False.elim) hHeld (Or.inl ⟨by rfl, fun W9 hW => by obtain ⟨q0, q1, q2, q3, q4, q5, q6, q7, q8, q9, q10⟩ := HKT.out _ (below_step HCwr.out hW.out); clear hHeld hW; simp only [jA, jB, jC]; go_simp⟩) ?_
    simp only [Act.put, jA, jB, jC, jD, jE, jF]
    refine tkH 1 (.agg #[.int .i64 T.id, .string ⟨T.name.toArray⟩, .slice a1 T.cols.length e1, .slice a3 T.key.length e3]) rfl (by kernel_rfl) (fun _ _ _ => False.elim) hHeld (Or.inl ⟨by rfl, fun W9 hW => by obtain ⟨q0, q1, q2, q3, q4, q5, q6, q7, q8, q9, q10⟩ := HKT.out _ (below_step HCwr.out hW.out); clear hHeld hW; simp only [jA, jB, jC]; go_simp⟩) ?_
    simp only [Act.put, jA, jB, jC, jD, jE, jF]
    refine tkH 2 (.slice b3 s.length c3) rfl (by kernel_rfl) (fun _ _ _ => False.elim) hHeld (Or.inl ⟨by rfl, fun W9 hW => by clear hHeld hW; simp only [jA, jB, jC]; go_simp⟩) ?_
    simp only [Act.put, jA, jB, jC, jD, jE, jF]
    refine tkH 5 (.slice na (nameL T (pickL r T.key)).length nc) rfl (by kernel_rfl) (fun _ _ _ => False.elim) hHeld (Or.inl ⟨by rfl, fun W9 hW => by clear hHeld hW; simp only [jA, jB, jC]; go_simp⟩) ?_
    simp only [Act.put, jA, jB, jC, jD, jE, jF]
    refine tkH 7 (.bool true) rfl (by kernel_rfl) (fun _ _ _ => False.elim) hHeld (Or.inl ⟨by rfl, fun W9 hW => by clear hHeld hW; simp only [jA, jB, jC]; go_simp⟩) ?_
    simp only [Act.put, jA, jB, jC, jD, jE, jF]
    refine rdH 3 (by kernel_rfl) rfl fun K hK => ?_
    go_simp
    have CQ := hid (zkey_ok (HT2.out.old (below_step HCwr.out hHeld.out)) HTI.out.key (by have := HTI.out.keyl; omega) (HS2.out.old (below_step HCwr.out hHeld.out)) HSS.out.ok)
    go_wp2_with (first | (go_at_call 11; refine CQ.out.mono ?_; rintro en wD ⟨ja, jc, rfl, hvE, hbE⟩; have HBE := hid (below_step hHeld.out hbE); have HVB := hid hvE; have HXD := hid HBE.out; clear hvE hbE; have HCwD := hid (below_step HCwr.out HBE.out)))
    clear CQ hHeld
    refine hK.out _ _ HBE (fun hHeld => ?_)
    clear hK K
    try simp only [Act.put, jA, jB, jC, jD, jE, jF]
    refine wpAnyH_low (S' := fun V => Hid (Below wD.heap.size wD V)) (fun V hV => hid (below_step HBE.out hV.out)) _ _ _ _ ?_
    clear hHeld HBE
    have hHeld : Hid (Below wD.heap.size wD wD) := hid (Below.refl _ _)
    refine rdH 4 (by kernel_rfl) rfl fun K hK => ?_
    go_simp
    have CQ := hid (name_ok (HT2.out.old (below_step HCwD.out hHeld.out)) HTI.out.tid HTI.out.key (by have := HTI.out.keyl; omega) (HVB.out.old hHeld.out) HOB.out.inn HKB.out)
    go_wp2_with (first | (go_at_call 10; refine CQ.out.mono ?_; rintro en wE ⟨v2, rfl, hoE, hbE⟩; have HBE := hid (below_step hHeld.out hbE); obtain ⟨ma, mc, rfl, hrE⟩ := zown_rd hoE; have HRM := hid hrE; have HXE := hid (below_step HXD.out (below_step hHeld.out hbE)); clear hoE hrE hbE; have HCwE := hid (below_step HCwD.out HBE.out)))
    clear CQ hHeld
    refine hK.out _ _ HBE (fun hHeld => ?_)
    clear hK K
    try simp only [Act.put, jA, jB, jC, jD, jE, jF]
    refine wpAnyH_low (S' := fun V => Hid (Below wE.heap.size wE V)) (fun V hV => hid (below_step HBE.out hV.out)) _ _ _ _ ?_
    clear hHeld HBE
    have hHeld : Hid (Below wE.heap.size wE wE) := hid (Below.refl _ _)
    have HRNe := hid (HRNr.out.old HXE.out)
    refine rdH 6 (by kernel_rfl) rfl fun K hK => ?_
    go_simp
    have CQ := hid (zbytes_eq (HRM.out.old hHeld.out) (HRNe.out.old hHeld.out) HEQ1.out)
    go_wp2_with (first | (go_at_call 12; refine CQ.out.mono ?_; rintro en wF ⟨rfl, hbE⟩; have HBE := hid (below_step hHeld.out hbE); have HXF := hid (below_step HXE.out (below_step hHeld.out hbE)); clear hbE; have HCwF := hid (below_step HCwE.out HBE.out)))
    clear CQ hHeld
    refine hK.out _ _ HBE (fun hHeld => ?_)
    clear hK K
    try simp only [Act.put, jA, jB, jC, jD, jE, jF]
    refine wpAnyH_low (S' := fun V => Hid (Below wF.heap.size wF V)) (fun V hV => hid (below_step HBE.out hV.out)) _ _ _ _ ?_
    clear hHeld HBE
    have hHeld : Hid (Below wF.heap.size wF wF) := hid (Below.refl _ _)
    refine tkH 8 (.bool true) rfl (by kernel_rfl) (fun _ _ _ => False.elim) hHeld (Or.inl ⟨by rfl, fun W9 hW => by clear hHeld hW; simp only [jA, jB, jC]; go_simp⟩) ?_
    simp only [Act.put, jA, jB, jC, jD, jE, jF]
    refine tkH 9 (.bool true) rfl (by kernel_rfl) (fun _ _ _ => False.elim) hHeld (Or.inl ⟨by rfl, fun W9 hW => by clear hHeld hW; simp only [jA, jB, jC]; go_simp⟩) ?_
    simp only [Act.put, jA, jB, jC, jD, jE, jF]
    refine tkH 10 (.pointer (some ⟨gp, 0, none⟩)) rfl (by kernel_rfl) (fun _ _ _ => False.elim) hHeld (Or.inl ⟨by rfl, fun W9 hW => by clear hHeld hW; simp only [jA, jB, jC]; go_simp⟩) ?_
    simp only [Act.put, jA, jB, jC, jD, jE, jF]
    refine tkH 11 (.slice ek (entKey T X r).length ec) rfl (by kernel_rfl) (fun _ _ _ => False.elim) hHeld (Or.inl ⟨by rfl, fun W9 hW => by have h9 := (((below_step HXF.out hW.out)).block _ (lt_of_block HPr.out)).trans HPr.out; have p0 := cell_in h9 0 _ rfl; clear hHeld hW; simp only [jA, jB, jC]; go_simp⟩) ?_
    simp only [Act.put, jA, jB, jC, jD, jE, jF]
    refine tkH 12 (.pointer (some ⟨gq, 0, none⟩)) rfl (by kernel_rfl) (fun _ _ _ => False.elim) hHeld (Or.inl ⟨by rfl, fun W9 hW => by clear hHeld hW; simp only [jA, jB, jC]; go_simp⟩) ?_
    simp only [Act.put, jA, jB, jC, jD, jE, jF]
    refine tkH 13 (.slice fk (entKey T X s).length fc) rfl (by kernel_rfl) (fun _ _ _ => False.elim) hHeld (Or.inl ⟨by rfl, fun W9 hW => by have h9 := (((below_step HXF.out hW.out)).block _ (lt_of_block HQr.out)).trans HQr.out; have p0 := cell_in h9 0 _ rfl; clear hHeld hW; simp only [jA, jB, jC]; go_simp⟩) ?_
    simp only [Act.put, jA, jB, jC, jD, jE, jF]
    refine tkH 15 (.bool true) rfl (by kernel_rfl) (fun _ _ _ => False.elim) hHeld (Or.inl ⟨by rfl, fun W9 hW => by clear hHeld hW; simp only [jA, jB, jC]; go_simp⟩) ?_
    simp only [Act.put, jA, jB, jC, jD, jE, jF]
    have HEKe := hid (HEKr.out.old HXF.out)
    have HFKe := hid (HFKr.out.old HXF.out)
    refine rdH 14 (by kernel_rfl) rfl fun K hK => ?_
    go_simp
    have CQ := hid (zbytes_eq (HEKe.out.old hHeld.out) (HFKe.out.old hHeld.out) HEQ2.out)
    go_wp2_with (first | (go_at_call 12; refine CQ.out.mono ?_; rintro en wG ⟨rfl, hbE⟩; have HBE := hid (below_step hHeld.out hbE); clear hbE; have HCwG := hid (below_step HCwF.out HBE.out)))
    clear CQ hHeld
    refine hK.out _ _ HBE (fun hHeld => ?_)
    clear hK K
    try simp only [Act.put, jA, jB, jC, jD, jE, jF]
    refine wpAnyH_low (S' := fun V => Hid (Below wG.heap.size wG V)) (fun V hV => hid (below_step HBE.out hV.out)) _ _ _ _ ?_
    clear hHeld HBE
    have hHeld : Hid (Below wG.heap.size wG wG) := hid (Below.refl _ _)
    refine tkH 16 (.bool true) rfl (by kernel_rfl) (fun _ _ _ => False.elim) hHeld (Or.inl ⟨by rfl, fun W9 hW => by clear hHeld hW; simp only [jA, jB, jC]; go_simp⟩) ?_
    simp only [Act.put, jA, jB, jC, jD, jE, jF]
    refine tkH 17 (.bool true) rfl (by kernel_rfl) (fun _ _ _ => False.elim) hHeld (Or.inl ⟨by rfl, fun W9 hW => by clear hHeld hW; simp only [jA, jB, jC]; go_simp⟩) ?_
    simp only [Act.put, jA, jB, jC, jD, jE, jF]
    refine tkH 18 (.bool true) rfl (by kernel_rfl) (fun _ _ _ => False.elim) hHeld (Or.inl ⟨by rfl, fun W9 hW => by clear hHeld hW; simp only [jA, jB, jC]; go_simp⟩) ?_
    simp only [Act.put, jA, jB, jC, jD, jE, jF]
    refine tkH 19 (undef) rfl (by kernel_rfl) (fun _ _ _ => False.elim) hHeld (Or.inr ⟨by rfl, by rfl⟩) ?_
    simp only [Act.put, jA, jB, jC, jD, jE, jF]
    refine tkH 20 (.bool true) rfl (by kernel_rfl) (fun _ _ _ => False.elim) hHeld (Or.inl ⟨by rfl, fun W9 hW => by clear hHeld hW; simp only [jA, jB, jC]; go_simp⟩) ?_
    simp only [Act.put, jA, jB, jC, jD, jE, jF]
    refine tkH 21 (.bool true) rfl (by kernel_rfl) (fun _ _ _ => False.elim) hHeld (Or.inl ⟨by rfl, fun W9 hW => by clear hHeld hW; simp only [jA, jB, jC]; go_simp⟩) ?_
    simp only [Act.put, jA, jB, jC, jD, jE, jF]
    refine tkH 22 (.bool true) rfl (by kernel_rfl) (fun _ _ _ => False.elim) hHeld (Or.inl ⟨by rfl, fun W9 hW => by clear hHeld hW; simp only [jA, jB, jC]; go_simp⟩) ?_
    simp only [Act.put, jA, jB, jC, jD, jE, jF]
    refine tkH 23 (.bool true) rfl (by kernel_rfl) (fun _ _ _ => False.elim) hHeld (Or.inl ⟨by rfl, fun W9 hW => by clear hHeld hW; simp only [jA, jB, jC]; go_simp⟩) ?_
    simp only [Act.put, jA, jB, jC, jD, jE, jF]
    refine tkH 24 (.bool true) rfl (by kernel_rfl) (fun _ _ _ => False.elim) hHeld (Or.inl ⟨by rfl, fun W9 hW => by clear hHeld hW; simp only [jA, jB, jC]; go_simp⟩) ?_
    simp only [Act.put, jA, jB, jC, jD, jE, jF]
    refine wpAnyH_done (by kernel_rfl) (NoPanic.normal ?_) _
    clear hHeld
    go_wp2_with fail
    go_ret
    exact ⟨rfl, below_step HB.out HCwG.out⟩

theorem walk {H : Type} {enc : TypeId × Value → H} {base : Nat} {d0 d1 d2 d3 : DataW H} {p0 p1 p2 p3 : List MemPlace} (v0 v1 v2 v3 : Value) (W : World)
    (hw0 : Value.okWide Tryd.prog W .any base 25 v0) (h0 : DataW.Trod enc Tryd.prog W 0 (fun _ => true) true 25 v0 d0 p0) (hk0 : ∀ n ∈ d0.weights Tryd.prog 25, n ≤ reachBytes)
    (hw1 : Value.okWide Tryd.prog W .any base 27 v1) (h1 : DataW.Trod enc Tryd.prog W 0 (fun _ => true) true 27 v1 d1 p1) (hk1 : ∀ n ∈ d1.weights Tryd.prog 27, n ≤ reachBytes)
    (hw2 : Value.okWide Tryd.prog W .any base 28 v2) (h2 : DataW.Trod enc Tryd.prog W 0 (fun _ => true) true 28 v2 d2 p2) (hk2 : ∀ n ∈ d2.weights Tryd.prog 28, n ≤ reachBytes)
    (hw3 : Value.okWide Tryd.prog W .any base 28 v3) (h3 : DataW.Trod enc Tryd.prog W 0 (fun _ => true) true 28 v3 d3 p3) (hk3 : ∀ n ∈ d3.weights Tryd.prog 28, n ≤ reachBytes) :
    Calls Tryd.prog 3 #[v0, v1, v2, v3] W (fun e w' => e = .returned (.bool true) ∧ Below W.heap.size W w') := by
  obtain ⟨cs, T, rfl, hT, hTW⟩ := table_open hw0 h0
  obtain ⟨ds, X, rfl, hX, hXW⟩ := index_open hw1 h1
  obtain ⟨a2, l2, c2, rfl⟩ := WideShapes.okWide_slice Tryd.underlying28 hw2
  obtain ⟨r, -, hr, hri⟩ := vals_open h2
  obtain ⟨a3, l3, c3, rfl⟩ := WideShapes.okWide_slice Tryd.underlying28 hw3
  obtain ⟨s, -, hs, hsi⟩ := vals_open h3
  exact walk0 W hT (hTW hk0) hX (hXW hk1) hr hri hs hsi
end Go.Proofs.YtpdmocdfnakggaaDoor.rowsBack

