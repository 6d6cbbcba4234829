/-
  THE LAW RowsOrder, proved for every input, with no condition of ours: names stand in the order of keys, entries in that of their values, and a row is in a span just if its key is between the bounds.
-/
import Derived.Deep.CutRange
import Derived.Deep.CutBlock
import Derived.Test.YtpdmocdfnakggaaDoorRows
import Derived.WalkKit
import Derived.WalkSpells
import Derived.WalkLawsBesides
import Derived.Laws.AppendOwnNone
import Derived.Test.YtpdmocdfnakggaaDoorProg
import Derived.LaidEql
import Derived.Stop.Asserts
import Derived.RowKitTokens
import Derived.ProofKit
import Derived.OpenShut
import Derived.ShutString
import Derived.ChangeOld
import Derived.Below
import Derived.SizedLaws
import Derived.Deep.Slices
import Derived.Deep.AppendLies
import Derived.BigQuiet
import Derived.Deep.QuietTactic
import Derived.Deep.RegionWith
import Derived.Deep.RegionHeld3
import Derived.Deep.Strs
import Derived.Lib.Bytealg
import GoSem.Op.String
import Derived.Deep.RegionHeld
import Derived.Lib.Bytes
import Derived.Deep.OwnRows
import Derived.OwnWalk
import Derived.Lib.AppendZeros
import Derived.Deep.RegionLaw
import Derived.Test.YtpdmocdfnakggaaDoorCards
import Derived.Test.YtpdmocdfnakggaaDoorTie
import Derived.SliceStrings
import Derived.Carry
import Derived.Deep.DeepHandedRow
import Derived.LaidHandle
import Derived.LaidLaws
import Derived.Lib.LaidTab
import Derived.Test.YtpdmocdfnakggaaDoorZR1
import Derived.Test.YtpdmocdfnakggaaDoorZR2
import Derived.Test.YtpdmocdfnakggaaDoorZR3
import Derived.Test.YtpdmocdfnakggaaDoorZR4
import Derived.Test.YtpdmocdfnakggaaDoorZR5
import Derived.Test.YtpdmocdfnakggaaDoorZR6
import Derived.Test.YtpdmocdfnakggaaDoorZR7
set_option linter.unusedVariables false
set_option linter.unusedSimpArgs false
set_option linter.unusedVariables false
set_option linter.unusedSimpArgs false
set_option maxRecDepth 100000
namespace Go.Proofs.YtpdmocdfnakggaaDoor.rowsOrder
open Go.RowKit Go.Deep

theorem zfield (x y : Value) (V : World) : (Instr.field 34 (.agg #[x, y, .int .i64 0]) 0).run Tryd.prog V = .ok x V := by kernel_rfl

theorem within_eq {w : World} {a1 a2 : Option Addr} {c1 c2 : Nat} {x : Value} {K L H : List UInt8} {b : Bool} (h1 : Rd w (.slice a1 L.length c1) L) (h2 : Rd w (.slice a2 H.length c2) H) (hx : Rd w x K) (hb : inSpan K L H = b) :
    Calls Tryd.prog 20 #[.agg #[.slice a1 L.length c1, .slice a2 H.length c2], x] w (Ans w (.bool b)) := by
  subst hb; exact within_any h1 h2 hx
theorem less_anti {x y : List UInt8} (h : Op.bytesLess y x = true) : Op.bytesLess x y = false ∧ (x == y) = false := by
  rw [less_eq] at h ⊢
  rw [beq_eq]
  have h1 : Lib.compareBytes y x = -1 := of_decide_eq_true h
  have h2 : Lib.compareBytes x y = 1 := by rw [cb_swap y x, h1]; rfl
  rw [h2]
  exact ⟨rfl, rfl⟩

set_option maxHeartbeats 32000000 in
theorem walk0 {cs ds : List Value} {T : Tab} {X : Idx} {x2 x3 x4 x5 : Value} {r s l k : List Vl} (W : World) (hg : Ready W) (hT : TabN (Low W) W cs T) (hTW : T.W) (hX : IdxN (Low W) W ds X) (hXW : X.W)
    (hr : Vs W x2 r) (hri : ∀ v ∈ r, inV v) (hs : Vs W x3 s) (hsi : ∀ v ∈ s, inV v) (hl : Vs W x4 l) (hli : ∀ v ∈ l, inV v) (hk : Vs W x5 k) (hki : ∀ v ∈ k, inV v) :
    Calls Tryd.prog 4 #[.agg cs.toArray, .agg ds.toArray, x2, x3, x4, x5] W (fun e w' => e = .returned (.bool true) ∧ Below W.heap.size W w') := by
  obtain ⟨a1, e1, a3, e3, rfl⟩ := tab_form hT
  have hX0 := hX
  obtain ⟨x6, rfl, ⟨hx6, -⟩, -⟩ := hX0
  obtain ⟨a4, e4, rfl, -, -, pc⟩ := zs_cells hx6
  obtain ⟨b2, c2, rfl, hm2⟩ := hr.form
  obtain ⟨b3, c3, rfl, hm3⟩ := hs.form
  obtain ⟨b4, c4, rfl, hm4⟩ := hl.form
  obtain ⟨b5, c5, rfl, hm5⟩ := hk.form
  unfold maxLen at hm2 hm3 hm4 hm5
  have HG := hid hg
  have H0 := hid hT
  have H1 := hid hX
  have HR0 := hid hr
  have HS0 := hid hs
  have HL0 := hid hl
  have HK0 := hid hk
  have HTW := hid hTW
  have HXW := hid hXW
  have HRI := hid hri
  have HSI := hid hsi
  have HLI := hid hli
  have HKI := hid hki
  have HPC := hid pc
  clear hg hT hX hr hs hl hk hTW hXW hri hsi hli hki pc hx6
  go_enter Tryd.func4, Tryd.ntmps4
  go_upto_region 1 with fail
  have hb := (Below.refl W.heap.size W).alloc (Nat.le_refl _) (.cells #[.int .i64 T.id, .string ⟨T.name.toArray⟩, .slice a1 T.cols.length e1, .slice a3 T.key.length e3] 25)
  have hz := heap_alloc_new W (.cells #[.int .i64 T.id, .string ⟨T.name.toArray⟩, .slice a1 T.cols.length e1, .slice a3 T.key.length e3] 25)
  have hs : (W.alloc (.cells #[.int .i64 T.id, .string ⟨T.name.toArray⟩, .slice a1 T.cols.length e1, .slice a3 T.key.length e3] 25)).heap.size = W.heap.size + 1 := by simp
  generalize W.alloc (.cells #[.int .i64 T.id, .string ⟨T.name.toArray⟩, .slice a1 T.cols.length e1, .slice a3 T.key.length e3] 25) = w1 at *
  have hb2 := (Below.refl w1.heap.size w1).alloc (Nat.le_refl _) (.cells #[.int .i64 X.id, .int .i64 X.table, .string ⟨X.name.toArray⟩, .slice a4 X.cols.length e4, .bool X.uniq, .int .i64 X.state, .bool X.bad] 27)
  have hx2 := heap_alloc_new w1 (.cells #[.int .i64 X.id, .int .i64 X.table, .string ⟨X.name.toArray⟩, .slice a4 X.cols.length e4, .bool X.uniq, .int .i64 X.state, .bool X.bad] 27)
  generalize w1.alloc (.cells #[.int .i64 X.id, .int .i64 X.table, .string ⟨X.name.toArray⟩, .slice a4 X.cols.length e4, .bool X.uniq, .int .i64 X.state, .bool X.bad] 27) = w2 at *
  have hz2 := (hb2.block _ (lt_of_block hz)).trans hz
  rw [hs] at hx2
  have HB := hid (below_step hb hb2)
  have HKT : Hid (∀ V, Below w2.heap.size w2 V → V.cell? ⟨W.heap.size, 0, none⟩ = some (.int .i64 T.id) ∧ V.cell? ⟨W.heap.size, 1, none⟩ = some (.string ⟨T.name.toArray⟩) ∧ V.cell? ⟨W.heap.size, 2, none⟩ = some (.slice a1 T.cols.length e1) ∧ V.cell? ⟨W.heap.size, 3, none⟩ = some (.slice a3 T.key.length e3) ∧ V.cell? ⟨W.heap.size + 1, 0, none⟩ = some (.int .i64 X.id) ∧ V.cell? ⟨W.heap.size + 1, 1, none⟩ = some (.int .i64 X.table) ∧ V.cell? ⟨W.heap.size + 1, 2, none⟩ = some (.string ⟨X.name.toArray⟩) ∧ V.cell? ⟨W.heap.size + 1, 3, none⟩ = some (.slice a4 X.cols.length e4) ∧ V.cell? ⟨W.heap.size + 1, 4, none⟩ = some (.bool X.uniq) ∧ V.cell? ⟨W.heap.size + 1, 5, none⟩ = some (.int .i64 X.state) ∧ V.cell? ⟨W.heap.size + 1, 6, none⟩ = some (.bool X.bad)) := hid (fun V hV => by
    have h1 := (hV.block _ (lt_of_block hz2)).trans hz2
    have h2 := (hV.block _ (lt_of_block hx2)).trans hx2
    exact ⟨cell_in h1 0 _ rfl, cell_in h1 1 _ rfl, cell_in h1 2 _ rfl, cell_in h1 3 _ rfl, cell_in h2 0 _ rfl, cell_in h2 1 _ rfl, cell_in h2 2 _ rfl, cell_in h2 3 _ rfl, cell_in h2 4 _ rfl, cell_in h2 5 _ rfl, cell_in h2 6 _ rfl⟩)
  have HT2 := hid (H0.out.old HB.out)
  have HX2 := hid (H1.out.old HB.out)
  have HR2 := hid (HR0.out.old HB.out)
  have HS2 := hid (HS0.out.old HB.out)
  have HL2 := hid (HL0.out.old HB.out)
  have HK2 := hid (HK0.out.old HB.out)
  have HG2 := hid (HG.out.kept (Keeps.below HB.out HG.out.lt))
  clear hb hb2 hz hz2 hx2 hs H0 H1 HR0 HS0 HL0 HK0 HG
  have CA1 := hid (zawake_any w2)
  cases hm : mayF T X with
  | false =>
    go_wp2_with (first | (go_at_call 5; refine CA1.out.mono ?_; rintro en w3 ⟨rfl, hb3⟩; have HCw3 := hid hb3; clear CA1; obtain ⟨z0, z1, z2, z3, i0, i1, i2, i3, i4, i5, i6⟩ := HKT.out _ HCw3.out; have CM := hid (may_any (HT2.out.old HCw3.out) (HX2.out.old HCw3.out) HTW.out HXW.out); rw [hm] at CM) | (go_at_call 6; refine CM.out.mono ?_; rintro en w4 ⟨rfl, hb4⟩; have HCw4 := hid (below_step HCw3.out hb4); clear z0 z1 z2 z3 i0 i1 i2 i3 i4 i5 i6 hb4 CM; obtain ⟨z0, z1, z2, z3, i0, i1, i2, i3, i4, i5, i6⟩ := HKT.out _ HCw4.out; have CA2 := hid (zawake_any w4)) | (go_at_call 5; refine CA2.out.mono ?_; rintro en w8 ⟨rfl, hb8⟩; have HCw8 := hid (below_step HCw4.out hb8); clear hb8))
    go_ret
    exact ⟨rfl, below_step HB.out HCw8.out⟩
  | true =>
  have HTI := hid (mayF_ti HTW.out HXW.out hm)
  cases hfr : rowF T r with
  | false =>
    go_wp2_with (first | (go_at_call 5; refine CA1.out.mono ?_; rintro en w3 ⟨rfl, hb3⟩; have HCw3 := hid hb3; clear CA1; obtain ⟨z0, z1, z2, z3, i0, i1, i2, i3, i4, i5, i6⟩ := HKT.out _ HCw3.out; have CM := hid (may_any (HT2.out.old HCw3.out) (HX2.out.old HCw3.out) HTW.out HXW.out); rw [hm] at CM) | (go_at_call 6; refine CM.out.mono ?_; rintro en w4 ⟨rfl, hb4⟩; have HCw4 := hid (below_step HCw3.out hb4); clear z0 z1 z2 z3 i0 i1 i2 i3 i4 i5 i6 hb4 CM; obtain ⟨z0, z1, z2, z3, i0, i1, i2, i3, i4, i5, i6⟩ := HKT.out _ HCw4.out; have CR1 := hid (refRight_f (HT2.out.old HCw4.out) (HR2.out.old HCw4.out)); rw [hfr] at CR1) | (go_at_call 7; refine CR1.out.mono ?_; rintro en w5 ⟨rfl, hb5⟩; have HCw5 := hid (below_step HCw4.out hb5); clear z0 z1 z2 z3 i0 i1 i2 i3 i4 i5 i6 hb5 CR1; obtain ⟨z0, z1, z2, z3, i0, i1, i2, i3, i4, i5, i6⟩ := HKT.out _ HCw5.out; have CA2 := hid (zawake_any w5)) | (go_at_call 5; refine CA2.out.mono ?_; rintro en w8 ⟨rfl, hb8⟩; have HCw8 := hid (below_step HCw5.out hb8); clear hb8))
    go_ret
    exact ⟨rfl, below_step HB.out HCw8.out⟩
  | true =>
  have HRR : Hid (RwOk T r) := hid ⟨(rowF_iff _ _).1 hfr, HRI.out⟩
  cases hfs : rowF T s with
  | false =>
    go_wp2_with (first | (go_at_call 5; refine CA1.out.mono ?_; rintro en w3 ⟨rfl, hb3⟩; have HCw3 := hid hb3; clear CA1; obtain ⟨z0, z1, z2, z3, i0, i1, i2, i3, i4, i5, i6⟩ := HKT.out _ HCw3.out; have CM := hid (may_any (HT2.out.old HCw3.out) (HX2.out.old HCw3.out) HTW.out HXW.out); rw [hm] at CM) | (go_at_call 6; refine CM.out.mono ?_; rintro en w4 ⟨rfl, hb4⟩; have HCw4 := hid (below_step HCw3.out hb4); clear z0 z1 z2 z3 i0 i1 i2 i3 i4 i5 i6 hb4 CM; obtain ⟨z0, z1, z2, z3, i0, i1, i2, i3, i4, i5, i6⟩ := HKT.out _ HCw4.out; have CR1 := hid (refRight_f (HT2.out.old HCw4.out) (HR2.out.old HCw4.out)); rw [hfr] at CR1) | (go_at_call 7; refine CR1.out.mono ?_; rintro en w5 ⟨rfl, hb5⟩; have HCw5 := hid (below_step HCw4.out hb5); clear z0 z1 z2 z3 i0 i1 i2 i3 i4 i5 i6 hb5 CR1; obtain ⟨z0, z1, z2, z3, i0, i1, i2, i3, i4, i5, i6⟩ := HKT.out _ HCw5.out; have CR2 := hid (refRight_f (HT2.out.old HCw5.out) (HS2.out.old HCw5.out)); rw [hfs] at CR2) | (go_at_call 7; refine CR2.out.mono ?_; rintro en w6 ⟨rfl, hb6⟩; have HCw6 := hid (below_step HCw5.out hb6); clear z0 z1 z2 z3 i0 i1 i2 i3 i4 i5 i6 hb6 CR2; have CA2 := hid (zawake_any w6)) | (go_at_call 5; refine CA2.out.mono ?_; rintro en w8 ⟨rfl, hb8⟩; have HCw8 := hid (below_step HCw6.out hb8); clear hb8))
    go_ret
    exact ⟨rfl, below_step HB.out HCw8.out⟩
  | true =>
  have HSS : Hid (RwOk T s) := hid ⟨(rowF_iff _ _).1 hfs, HSI.out⟩
  cases hvv : (decide (l.length ≤ 40) && decide (k.length ≤ 40)) with
  | false =>
    go_wp2_with (first | (go_at_call 5; refine CA1.out.mono ?_; rintro en w3 ⟨rfl, hb3⟩; have HCw3 := hid hb3; clear CA1; obtain ⟨z0, z1, z2, z3, i0, i1, i2, i3, i4, i5, i6⟩ := HKT.out _ HCw3.out; have CM := hid (may_any (HT2.out.old HCw3.out) (HX2.out.old HCw3.out) HTW.out HXW.out); rw [hm] at CM) | (go_at_call 6; refine CM.out.mono ?_; rintro en w4 ⟨rfl, hb4⟩; have HCw4 := hid (below_step HCw3.out hb4); clear z0 z1 z2 z3 i0 i1 i2 i3 i4 i5 i6 hb4 CM; obtain ⟨z0, z1, z2, z3, i0, i1, i2, i3, i4, i5, i6⟩ := HKT.out _ HCw4.out; have CR1 := hid (refRight_f (HT2.out.old HCw4.out) (HR2.out.old HCw4.out)); rw [hfr] at CR1) | (go_at_call 7; refine CR1.out.mono ?_; rintro en w5 ⟨rfl, hb5⟩; have HCw5 := hid (below_step HCw4.out hb5); clear z0 z1 z2 z3 i0 i1 i2 i3 i4 i5 i6 hb5 CR1; obtain ⟨z0, z1, z2, z3, i0, i1, i2, i3, i4, i5, i6⟩ := HKT.out _ HCw5.out; have CR2 := hid (refRight_f (HT2.out.old HCw5.out) (HS2.out.old HCw5.out)); rw [hfs] at CR2) | (go_at_call 7; refine CR2.out.mono ?_; rintro en w6 ⟨rfl, hb6⟩; have HCw6 := hid (below_step HCw5.out hb6); clear z0 z1 z2 z3 i0 i1 i2 i3 i4 i5 i6 hb6 CR2; have CV := hid (values2_any (heap_alloc_new w6 (.cells #[.slice b4 l.length c4, .slice b5 k.length c5] 28))); rw [hvv] at CV) | (go_at_call 16; refine CV.out.mono ?_; rintro en w7 ⟨rfl, rfl⟩; have HCw7 := hid (HCw6.out.alloc HCw6.out.size (.cells #[.slice b4 l.length c4, .slice b5 k.length c5] 28)); have CA2 := hid (zawake_any (w6.alloc (.cells #[.slice b4 l.length c4, .slice b5 k.length c5] 28)))) | (go_at_call 5; refine CA2.out.mono ?_; rintro en w8 ⟨rfl, hb8⟩; have HCw8 := hid (below_step HCw7.out hb8); clear hb8))
    go_ret
    exact ⟨rfl, below_step HB.out HCw8.out⟩
  | true =>
  have hl40 : l.length ≤ 40 ∧ k.length ≤ 40 := by simpa using hvv
  go_upto_region 3 with (first | (go_at_call 5; refine CA1.out.mono ?_; rintro en w3 ⟨rfl, hb3⟩; have HCw3 := hid hb3; clear CA1; obtain ⟨z0, z1, z2, z3, i0, i1, i2, i3, i4, i5, i6⟩ := HKT.out _ HCw3.out; have CM := hid (may_any (HT2.out.old HCw3.out) (HX2.out.old HCw3.out) HTW.out HXW.out); rw [hm] at CM) | (go_at_call 6; refine CM.out.mono ?_; rintro en w4 ⟨rfl, hb4⟩; have HCw4 := hid (below_step HCw3.out hb4); clear z0 z1 z2 z3 i0 i1 i2 i3 i4 i5 i6 hb4 CM; obtain ⟨z0, z1, z2, z3, i0, i1, i2, i3, i4, i5, i6⟩ := HKT.out _ HCw4.out; have CR1 := hid (refRight_f (HT2.out.old HCw4.out) (HR2.out.old HCw4.out)); rw [hfr] at CR1) | (go_at_call 7; refine CR1.out.mono ?_; rintro en w5 ⟨rfl, hb5⟩; have HCw5 := hid (below_step HCw4.out hb5); clear z0 z1 z2 z3 i0 i1 i2 i3 i4 i5 i6 hb5 CR1; obtain ⟨z0, z1, z2, z3, i0, i1, i2, i3, i4, i5, i6⟩ := HKT.out _ HCw5.out; have CR2 := hid (refRight_f (HT2.out.old HCw5.out) (HS2.out.old HCw5.out)); rw [hfs] at CR2) | (go_at_call 7; refine CR2.out.mono ?_; rintro en w6 ⟨rfl, hb6⟩; have HCw6 := hid (below_step HCw5.out hb6); clear z0 z1 z2 z3 i0 i1 i2 i3 i4 i5 i6 hb6 CR2; have CV := hid (values2_any (heap_alloc_new w6 (.cells #[.slice b4 l.length c4, .slice b5 k.length c5] 28))); rw [hvv] at CV) | (go_at_call 16; refine CV.out.mono ?_; rintro en w7 ⟨rfl, rfl⟩; skip))
  have HL40 := hid hl40
  have hb7 := HCw6.out.alloc HCw6.out.size (.cells #[.slice b4 l.length c4, .slice b5 k.length c5] 28)
  generalize w6.alloc (.cells #[.slice b4 l.length c4, .slice b5 k.length c5] 28) = w7 at *
  have HCw7 := hid hb7
  clear hb7 hl40 hm hfr hfs hvv CV
  have HKA := hid (key_ok HRR.out.ok HTI.out.key HTI.out.non)
  have HKB := hid (key_ok HSS.out.ok HTI.out.key HTI.out.non)
  have HOA := hid (pick_okl HRR.out HTI.out.key)
  have HOB := hid (pick_okl HSS.out HTI.out.key)
  have HOC := hid (pick_okl HRR.out HTI.out.cols)
  have HOD := hid (pick_okl HSS.out HTI.out.cols)
  have HQ : Hid (Op.bytesLess (nameL T (pickL r T.key)) (nameL T (pickL s T.key)) = decide (cmpVs (pickL r T.key) (pickL s T.key) < 0)) := hid (enc_less HOA.out HOB.out)
  refine wp_region_noPanic ?_
  refine wp_region_held_drew (S := fun V => Hid (Below w7.heap.size w7 V)) (by kernel_rfl) (hid (Below.drew (Below.refl _ _))) (fun hHeld => ?_)
  generalize w7.drew = Wd at *
  refine tkH 0 (.agg #[.int .i64 T.id, .string ⟨T.name.toArray⟩, .slice a1 T.cols.length e1, .slice a3 T.key.length e3]) rfl (by kernel_rfl) (fun _ _ _ => False.elim) hHeld (Or.inl ⟨by rfl, fun W9 hW => by obtain ⟨q0, q1, q2, q3, q4, q5, q6, q7, q8, q9, q10⟩ := HKT.out _ (below_step HCw7.out hW.out); clear hHeld hW; simp only [jA, jB, jC]; go_simp⟩) ?_
  simp only [Act.put, jA, jB, jC, jD, jE, jF]
  refine tkH 1 (.slice b2 r.length c2) rfl (by kernel_rfl) (fun _ _ _ => False.elim) hHeld (Or.inl ⟨by rfl, fun W9 hW => by clear hHeld hW; simp only [jA, jB, jC]; go_simp⟩) ?_
  simp only [Act.put, jA, jB, jC, jD, jE, jF]
  refine tkH 3 (.agg #[.int .i64 T.id, .string ⟨T.name.toArray⟩, .slice a1 T.cols.length e1, .slice a3 T.key.length e3]) rfl (by kernel_rfl) (fun _ _ _ => False.elim) hHeld (Or.inl ⟨by rfl, fun W9 hW => by obtain ⟨q0, q1, q2, q3, q4, q5, q6, q7, q8, q9, q10⟩ := HKT.out _ (below_step HCw7.out hW.out); clear hHeld hW; simp only [jA, jB, jC]; go_simp⟩) ?_
  simp only [Act.put, jA, jB, jC, jD, jE, jF]
  refine tkH 4 (.slice b3 s.length c3) rfl (by kernel_rfl) (fun _ _ _ => False.elim) hHeld (Or.inl ⟨by rfl, fun W9 hW => by clear hHeld hW; simp only [jA, jB, jC]; go_simp⟩) ?_
  simp only [Act.put, jA, jB, jC, jD, jE, jF]
  refine rdH 2 (by kernel_rfl) rfl fun K hK => ?_
  go_simp
  have CQ := hid (rkey_ok (HT2.out.old (below_step HCw7.out hHeld.out)) HTI.out.key (by have := HTI.out.keyl; omega) (HR2.out.old (below_step HCw7.out hHeld.out)) HRR.out.ok)
  go_wp2_with (first | (go_at_call 15; refine CQ.out.mono ?_; rintro en wA ⟨ka, kc, rfl, hvE, hbE⟩; have HBE := hid (below_step hHeld.out hbE); have HVA := hid hvE; clear hvE hbE; have HCwA := hid (below_step HCw7.out HBE.out)))
  clear CQ hHeld
  refine hK.out _ _ HBE (fun hHeld => ?_)
  clear hK K
  try simp only [Act.put, jA, jB, jC, jD, jE, jF]
  refine wpAnyH_low (S' := fun V => Hid (Below wA.heap.size wA V)) (fun V hV => hid (below_step HBE.out hV.out)) _ _ _ _ ?_
  clear hHeld HBE
  have hHeld : Hid (Below wA.heap.size wA wA) := hid (Below.refl _ _)
  refine rdH 5 (by kernel_rfl) rfl fun K hK => ?_
  go_simp
  have CQ := hid (rkey_ok (HT2.out.old (below_step HCwA.out hHeld.out)) HTI.out.key (by have := HTI.out.keyl; omega) (HS2.out.old (below_step HCwA.out hHeld.out)) HSS.out.ok)
  go_wp2_with (first | (go_at_call 15; refine CQ.out.mono ?_; rintro en wB ⟨la, lc, rfl, hvE, hbE⟩; have HBE := hid (below_step hHeld.out hbE); have HVA2 := hid (HVA.out.old (below_step hHeld.out hbE)); have HVB := hid hvE; clear hvE hbE; have HCwB := hid (below_step HCwA.out HBE.out)))
  clear CQ hHeld
  refine hK.out _ _ HBE (fun hHeld => ?_)
  clear hK K
  try simp only [Act.put, jA, jB, jC, jD, jE, jF]
  refine wpAnyH_low (S' := fun V => Hid (Below wB.heap.size wB V)) (fun V hV => hid (below_step HBE.out hV.out)) _ _ _ _ ?_
  clear hHeld HBE
  have hHeld : Hid (Below wB.heap.size wB wB) := hid (Below.refl _ _)
  refine tkH 6 (.slice ka T.key.length kc) rfl (by kernel_rfl) (fun _ _ _ => False.elim) hHeld (Or.inl ⟨by rfl, fun W9 hW => by clear hHeld hW; simp only [jA, jB, jC]; go_simp⟩) ?_
  simp only [Act.put, jA, jB, jC, jD, jE, jF]
  refine tkH 7 (.slice la T.key.length lc) rfl (by kernel_rfl) (fun _ _ _ => False.elim) hHeld (Or.inl ⟨by rfl, fun W9 hW => by clear hHeld hW; simp only [jA, jB, jC]; go_simp⟩) ?_
  simp only [Act.put, jA, jB, jC, jD, jE, jF]
  refine wpAnyH_done (by kernel_rfl) (NoPanic.normal ?_) _
  clear hHeld
  clear HVA
  have HVA := HVA2
  clear HVA2
  go_upto_region 4 with fail
  refine wp_region_noPanic ?_
  refine wp_region_held_drew (S := fun V => Hid (Below wB.heap.size wB V)) (by kernel_rfl) (hid (Below.drew (Below.refl _ _))) (fun hHeld => ?_)
  generalize wB.drew = Wd at *
  refine tkH 0 (.agg #[.int .i64 T.id, .string ⟨T.name.toArray⟩, .slice a1 T.cols.length e1, .slice a3 T.key.length e3]) rfl (by kernel_rfl) (fun _ _ _ => False.elim) hHeld (Or.inl ⟨by rfl, fun W9 hW => by obtain ⟨q0, q1, q2, q3, q4, q5, q6, q7, q8, q9, q10⟩ := HKT.out _ (below_step HCwB.out hW.out); clear hHeld hW; simp only [jA, jB, jC]; go_simp⟩) ?_
  simp only [Act.put, jA, jB, jC, jD, jE, jF]
  refine tkH 1 (.slice ka T.key.length kc) rfl (by kernel_rfl) (fun _ _ _ => False.elim) hHeld (Or.inl ⟨by rfl, fun W9 hW => by clear hHeld hW; simp only [jA, jB, jC]; go_simp⟩) ?_
  simp only [Act.put, jA, jB, jC, jD, jE, jF]
  refine tkH 4 (.agg #[.int .i64 T.id, .string ⟨T.name.toArray⟩, .slice a1 T.cols.length e1, .slice a3 T.key.length e3]) rfl (by kernel_rfl) (fun _ _ _ => False.elim) hHeld (Or.inl ⟨by rfl, fun W9 hW => by obtain ⟨q0, q1, q2, q3, q4, q5, q6, q7, q8, q9, q10⟩ := HKT.out _ (below_step HCwB.out hW.out); clear hHeld hW; simp only [jA, jB, jC]; go_simp⟩) ?_
  simp only [Act.put, jA, jB, jC, jD, jE, jF]
  refine tkH 5 (.slice la T.key.length lc) rfl (by kernel_rfl) (fun _ _ _ => False.elim) hHeld (Or.inl ⟨by rfl, fun W9 hW => by clear hHeld hW; simp only [jA, jB, jC]; go_simp⟩) ?_
  simp only [Act.put, jA, jB, jC, jD, jE, jF]
  refine tkH 9 (.slice ka T.key.length kc) rfl (by kernel_rfl) (fun _ _ _ => False.elim) hHeld (Or.inl ⟨by rfl, fun W9 hW => by clear hHeld hW; simp only [jA, jB, jC]; go_simp⟩) ?_
  simp only [Act.put, jA, jB, jC, jD, jE, jF]
  refine tkH 10 (.slice la T.key.length lc) rfl (by kernel_rfl) (fun _ _ _ => False.elim) hHeld (Or.inl ⟨by rfl, fun W9 hW => by clear hHeld hW; simp only [jA, jB, jC]; go_simp⟩) ?_
  simp only [Act.put, jA, jB, jC, jD, jE, jF]
  refine rdH 2 (by kernel_rfl) rfl fun K hK => ?_
  go_simp
  have CQ := hid (name_ok (HT2.out.old (below_step HCwB.out hHeld.out)) HTI.out.tid HTI.out.key (by have := HTI.out.keyl; omega) (HVA.out.old hHeld.out) HOA.out.inn HKA.out)
  go_wp2_with (first | (go_at_call 10; refine CQ.out.mono ?_; rintro en wC ⟨v2, rfl, hoE, hbE⟩; have HBE := hid (below_step hHeld.out hbE); obtain ⟨na, nc, rfl, hrE⟩ := zown_rd hoE; have HRN1 := hid hrE; have HVA2 := hid (HVA.out.old (below_step hHeld.out hbE)); have HVB2 := hid (HVB.out.old (below_step hHeld.out hbE)); clear hoE hrE hbE; have HCwC := hid (below_step HCwB.out HBE.out)))
  clear CQ hHeld
  refine hK.out _ _ HBE (fun hHeld => ?_)
  clear hK K
  try simp only [Act.put, jA, jB, jC, jD, jE, jF]
  refine wpAnyH_low (S' := fun V => Hid (Below wC.heap.size wC V)) (fun V hV => hid (below_step HBE.out hV.out)) _ _ _ _ ?_
  clear hHeld HBE
  have hHeld : Hid (Below wC.heap.size wC wC) := hid (Below.refl _ _)
  refine tkH 3 (.string ⟨(nameL T (pickL r T.key)).toArray⟩) rfl (by kernel_rfl) (fun _ _ _ => False.elim) hHeld (Or.inl ⟨by rfl, fun W9 hW => by have t1 := (HRN1.out.old hW.out).conv (P := Tryd.prog) 32 9 5 Tryd.underlying32 Tryd.underlying5 Tryd.underlying9; clear hHeld hW; simp only [jA, jB, jC]; go_simp⟩) ?_
  simp only [Act.put, jA, jB, jC, jD, jE, jF]
  refine rdH 6 (by kernel_rfl) rfl fun K hK => ?_
  go_simp
  have CQ := hid (name_ok (HT2.out.old (below_step HCwC.out hHeld.out)) HTI.out.tid HTI.out.key (by have := HTI.out.keyl; omega) (HVB2.out.old hHeld.out) HOB.out.inn HKB.out)
  go_wp2_with (first | (go_at_call 10; refine CQ.out.mono ?_; rintro en wD ⟨v2, rfl, hoE, hbE⟩; have HBE := hid (below_step hHeld.out hbE); obtain ⟨nb, nd, rfl, hrE⟩ := zown_rd hoE; have HRN2 := hid hrE; have HVA3 := hid (HVA2.out.old (below_step hHeld.out hbE)); have HVB3 := hid (HVB2.out.old (below_step hHeld.out hbE)); clear hoE hrE hbE; have HCwD := hid (below_step HCwC.out HBE.out)))
  clear CQ hHeld
  refine hK.out _ _ HBE (fun hHeld => ?_)
  clear hK K
  try simp only [Act.put, jA, jB, jC, jD, jE, jF]
  refine wpAnyH_low (S' := fun V => Hid (Below wD.heap.size wD V)) (fun V hV => hid (below_step HBE.out hV.out)) _ _ _ _ ?_
  clear hHeld HBE
  have hHeld : Hid (Below wD.heap.size wD wD) := hid (Below.refl _ _)
  refine tkH 7 (.string ⟨(nameL T (pickL s T.key)).toArray⟩) rfl (by kernel_rfl) (fun _ _ _ => False.elim) hHeld (Or.inl ⟨by rfl, fun W9 hW => by have t1 := (HRN2.out.old hW.out).conv (P := Tryd.prog) 32 9 5 Tryd.underlying32 Tryd.underlying5 Tryd.underlying9; clear hHeld hW; simp only [jA, jB, jC]; go_simp⟩) ?_
  simp only [Act.put, jA, jB, jC, jD, jE, jF]
  refine tkH 8 (.bool (decide (cmpVs (pickL r T.key) (pickL s T.key) < 0))) rfl (by kernel_rfl) (fun _ _ _ => False.elim) hHeld (Or.inl ⟨by rfl, fun W9 hW => by have hq := HQ.out; clear hHeld hW; simp only [jA, jB, jC]; go_simp⟩) ?_
  simp only [Act.put, jA, jB, jC, jD, jE, jF]
  refine rdH 11 (by kernel_rfl) rfl fun K hK => ?_
  go_simp
  have CQ := hid (rcmp_any _ _ (pickL r T.key) (pickL s T.key) _ (HVA3.out.old hHeld.out) (HVB3.out.old hHeld.out) HOA.out.ok HOB.out.ok)
  go_wp2_with (first | (go_at_call 17; refine CQ.out.mono ?_; rintro en w9 ⟨rfl, hbE⟩; have HBE := hid (below_step hHeld.out hbE); have HVA4 := hid (HVA3.out.old (below_step hHeld.out hbE)); clear hbE; have HCw9 := hid (below_step HCwD.out HBE.out)))
  clear CQ hHeld
  refine hK.out _ _ HBE (fun hHeld => ?_)
  clear hK K
  try simp only [Act.put, jA, jB, jC, jD, jE, jF]
  refine wpAnyH_low (S' := fun V => Hid (Below w9.heap.size w9 V)) (fun V hV => hid (below_step HBE.out hV.out)) _ _ _ _ ?_
  clear hHeld HBE
  have hHeld : Hid (Below w9.heap.size w9 w9) := hid (Below.refl _ _)
  refine tkH 12 (.bool (decide (cmpVs (pickL r T.key) (pickL s T.key) < 0))) rfl (by kernel_rfl) (fun _ _ _ => False.elim) hHeld (Or.inl ⟨by rfl, fun W9 hW => by clear hHeld hW; simp only [jA, jB, jC]; go_simp⟩) ?_
  simp only [Act.put, jA, jB, jC, jD, jE, jF]
  refine tkH 13 (.bool false) rfl (by kernel_rfl) (fun _ _ _ => False.elim) hHeld (Or.inl ⟨by rfl, fun W9 hW => by clear hHeld hW; simp only [jA, jB, jC]; go_simp⟩) ?_
  simp only [Act.put, jA, jB, jC, jD, jE, jF]
  refine wpAnyH_done (by kernel_rfl) (NoPanic.normal ?_) _
  clear hHeld
  clear HVA HVA2 HVA3 HVB HVB2 HVB3 HRN1 HRN2 HQ
  have HVA := HVA4
  clear HVA4
  go_wp2_with fail
  have hcm : X.cols.length ≤ 6 := HTI.out.coll
  go_loopw [15, 16, 17] (fun c d j wr => ∃ (n : Nat) (ac : Option Addr) (cc : Nat) (ad : Option Addr) (cd : Nat), n ≤ X.cols.length ∧ j = .int .i64 (n : Int) ∧ c = .slice ac n cc ∧ d = .slice ad n cd ∧
      Hid (wr.ownsRow w9.heap.size 44 3 (.slice ac n cc) n (cellsL (pickL r (X.cols.take n)))) ∧ Hid (wr.ownsRow w9.heap.size 44 3 (.slice ad n cd) n (cellsL (pickL s (X.cols.take n)))) ∧
      Hid (∀ q, (Value.slice ac n cc).ownBlock = some q → ¬ (Value.slice ad n cd).ownBlock = some q) ∧ Hid (Below w9.heap.size w9 wr))
    (fun _ _ j _ => X.cols.length - (intOf j).toNat)
  case atStart => exact ⟨0, none, 0, none, 0, by omega, rfl, rfl, rfl, World.ownsRow_nil _ _ _ _, World.ownsRow_nil _ _ _ _, (fun q h => by cases h), Below.refl _ _⟩
  case round =>
  obtain ⟨n, ac, cc, ad, cd, hn, rfl, rfl, rfl, HOc, HOd, HDJ, HBr⟩ := hrel
  by_cases hlt : n < X.cols.length
  case pos =>
    obtain ⟨z, hz⟩ : ∃ z, X.cols[n]? = some z := ⟨_, List.getElem?_eq_getElem hlt⟩
    obtain ⟨hz1, hz2⟩ := HTI.out.cols z (List.mem_of_getElem? hz)
    obtain ⟨m, rfl⟩ : ∃ m : Nat, z = (m : Int) := ⟨z.toNat, by omega⟩
    have hrl : r.length = T.cols.length := HRR.out.ok.1
    have hsl : s.length = T.cols.length := HSS.out.ok.1
    have hmr : (m : Int) < (r.length : Int) := by omega
    have hms : (m : Int) < (s.length : Int) := by omega
    obtain ⟨v, hv⟩ : ∃ v, r[m]? = some v := ⟨_, List.getElem?_eq_getElem (by omega)⟩
    obtain ⟨u, hu⟩ : ∃ u, s[m]? = some u := ⟨_, List.getElem?_eq_getElem (by omega)⟩
    have HTr := hid (pickL_take hz hv)
    have HTs := hid (pickL_take hz hu)
    obtain ⟨xb, xo, rfl, xc0⟩ := HPC.out n m hz
    obtain ⟨rb, ro, rfl, d0, d1, d2⟩ := HR2.out.get hv
    obtain ⟨sb, so, rfl, f0, f1, f2⟩ := HS2.out.get hu
    have hni : (n : Int) < (X.cols.length : Int) := by omega
    clear hrl hsl hz hv hu hz1 hz2
    have HKL : Hid (∀ V, Below w9.heap.size w9 V → V.cell? ⟨W.heap.size + 1, 3, none⟩ = some (.slice (some ⟨xb, xo, none⟩) X.cols.length e4) ∧ V.cell? ⟨xb, xo + n, none⟩ = some (.int .i64 (m : Int)) ∧ V.cell? ⟨rb, ro + m * 3, none⟩ = some (.int .i64 v.k) ∧ V.cell? ⟨rb, ro + m * 3 + 1, none⟩ = some (.int .i64 v.i) ∧ V.cell? ⟨rb, ro + m * 3 + 2, none⟩ = some (.string ⟨v.s.toArray⟩) ∧ V.cell? ⟨sb, so + m * 3, none⟩ = some (.int .i64 u.k) ∧ V.cell? ⟨sb, so + m * 3 + 1, none⟩ = some (.int .i64 u.i) ∧ V.cell? ⟨sb, so + m * 3 + 2, none⟩ = some (.string ⟨u.s.toArray⟩)) := hid (fun V hV => by
      have h2 := below_step HCw9.out hV
      have hW := below_step HB.out h2
      exact ⟨(HKT.out _ h2).2.2.2.2.2.2.2.1, (hW.cell (block_cell xc0)).trans xc0, (h2.cell (block_cell d0)).trans d0, (h2.cell (block_cell d1)).trans d1, (h2.cell (block_cell d2)).trans d2, (h2.cell (block_cell f0)).trans f0, (h2.cell (block_cell f1)).trans f1, (h2.cell (block_cell f2)).trans f2⟩)
    clear xc0 d0 d1 d2 f0 f1 f2
    have hx3 := (HKL.out _ HBr.out).1
    go_upto_region 10 with fail
    clear hx3
    have HOc1 := hid (own_old HOc.out (Below.drew (Below.refl _ wr)))
    have HOd1 := hid (own_old HOd.out (Below.drew (Below.refl _ wr)))
    have HLc : Hid (∀ q, (Value.slice ac n cc).ownBlock = some q → q < wr.drew.heap.size) := hid (fun q hq => (HOc1.out.lt q hq).2)
    have HLd : Hid (∀ q, (Value.slice ad n cd).ownBlock = some q → q < wr.drew.heap.size) := hid (fun q hq => (HOd1.out.lt q hq).2)
    clear HOc HOd
    refine wp_region_noPanic ?_
    refine wp_region_held_drew (S := fun V => Hid (Below w9.heap.size w9 V)) (by kernel_rfl) (hid HBr.out.drew) (fun hHeld => ?_)
    generalize wr.drew = Wd at *
    refine tkH 0 (.slice ac n cc) rfl (by kernel_rfl) (fun _ _ _ => False.elim) hHeld (Or.inl ⟨by rfl, fun W9 hW => by clear hHeld hW; simp only [jA, jB, jC]; go_simp⟩) ?_
    simp only [Act.put, jA, jB, jC, jD, jE, jF]
    refine tkH 1 (.slice (some ⟨rb, ro, none⟩) r.length c2) rfl (by kernel_rfl) (fun _ _ _ => False.elim) hHeld (Or.inl ⟨by rfl, fun W9 hW => by clear hHeld hW; simp only [jA, jB, jC]; go_simp⟩) ?_
    simp only [Act.put, jA, jB, jC, jD, jE, jF]
    refine tkH 2 (.pointer (some ⟨W.heap.size + 1, 3, none⟩)) rfl (by kernel_rfl) (fun _ _ _ => False.elim) hHeld (Or.inl ⟨by rfl, fun W9 hW => by clear hHeld hW; simp only [jA, jB, jC]; go_simp⟩) ?_
    simp only [Act.put, jA, jB, jC, jD, jE, jF]
    refine tkH 3 (.slice (some ⟨xb, xo, none⟩) X.cols.length e4) rfl (by kernel_rfl) (fun _ _ _ => False.elim) hHeld (Or.inl ⟨by rfl, fun W9 hW => by obtain ⟨q0, q1, q2, q3, q4, q5, q6, q7⟩ := HKL.out _ hW.out; clear hHeld hW; simp only [jA, jB, jC]; go_simp⟩) ?_
    simp only [Act.put, jA, jB, jC, jD, jE, jF]
    refine tkH 4 (.int .i64 (n : Int)) rfl (by kernel_rfl) (fun _ _ _ => False.elim) hHeld (Or.inl ⟨by rfl, fun W9 hW => by clear hHeld hW; simp only [jA, jB, jC]; go_simp⟩) ?_
    simp only [Act.put, jA, jB, jC, jD, jE, jF]
    refine tkH 5 (.pointer (some ⟨xb, xo + n, none⟩)) rfl (by kernel_rfl) (fun _ _ _ => False.elim) hHeld (Or.inl ⟨by rfl, fun W9 hW => by clear hHeld hW; simp only [jA, jB, jC]; go_simp⟩) ?_
    simp only [Act.put, jA, jB, jC, jD, jE, jF]
    refine tkH 6 (.int .i64 (m : Int)) rfl (by kernel_rfl) (fun _ _ _ => False.elim) hHeld (Or.inl ⟨by rfl, fun W9 hW => by obtain ⟨q0, q1, q2, q3, q4, q5, q6, q7⟩ := HKL.out _ hW.out; clear hHeld hW; simp only [jA, jB, jC]; go_simp⟩) ?_
    simp only [Act.put, jA, jB, jC, jD, jE, jF]
    refine tkH 7 (.pointer (some ⟨rb, ro + m * 3, none⟩)) rfl (by kernel_rfl) (fun _ _ _ => False.elim) hHeld (Or.inl ⟨by rfl, fun W9 hW => by clear hHeld hW; simp only [jA, jB, jC]; go_simp⟩) ?_
    simp only [Act.put, jA, jB, jC, jD, jE, jF]
    refine tkH 8 (.agg #[.int .i64 v.k, .int .i64 v.i, .string ⟨v.s.toArray⟩]) rfl (by kernel_rfl) (fun _ _ _ => False.elim) hHeld (Or.inl ⟨by rfl, fun W9 hW => by obtain ⟨q0, q1, q2, q3, q4, q5, q6, q7⟩ := HKL.out _ hW.out; clear hHeld hW; simp only [jA, jB, jC]; go_simp⟩) ?_
    simp only [Act.put, jA, jB, jC, jD, jE, jF]
    refine tkH 11 (.slice ad n cd) rfl (by kernel_rfl) (fun _ _ _ => False.elim) hHeld (Or.inl ⟨by rfl, fun W9 hW => by clear hHeld hW; simp only [jA, jB, jC]; go_simp⟩) ?_
    simp only [Act.put, jA, jB, jC, jD, jE, jF]
    refine tkH 12 (.slice (some ⟨sb, so, none⟩) s.length c3) rfl (by kernel_rfl) (fun _ _ _ => False.elim) hHeld (Or.inl ⟨by rfl, fun W9 hW => by clear hHeld hW; simp only [jA, jB, jC]; go_simp⟩) ?_
    simp only [Act.put, jA, jB, jC, jD, jE, jF]
    refine tkH 13 (.pointer (some ⟨W.heap.size + 1, 3, none⟩)) rfl (by kernel_rfl) (fun _ _ _ => False.elim) hHeld (Or.inl ⟨by rfl, fun W9 hW => by clear hHeld hW; simp only [jA, jB, jC]; go_simp⟩) ?_
    simp only [Act.put, jA, jB, jC, jD, jE, jF]
    refine tkH 14 (.slice (some ⟨xb, xo, none⟩) X.cols.length e4) rfl (by kernel_rfl) (fun _ _ _ => False.elim) hHeld (Or.inl ⟨by rfl, fun W9 hW => by obtain ⟨q0, q1, q2, q3, q4, q5, q6, q7⟩ := HKL.out _ hW.out; clear hHeld hW; simp only [jA, jB, jC]; go_simp⟩) ?_
    simp only [Act.put, jA, jB, jC, jD, jE, jF]
    refine tkH 15 (.int .i64 (n : Int)) rfl (by kernel_rfl) (fun _ _ _ => False.elim) hHeld (Or.inl ⟨by rfl, fun W9 hW => by clear hHeld hW; simp only [jA, jB, jC]; go_simp⟩) ?_
    simp only [Act.put, jA, jB, jC, jD, jE, jF]
    refine tkH 16 (.pointer (some ⟨xb, xo + n, none⟩)) rfl (by kernel_rfl) (fun _ _ _ => False.elim) hHeld (Or.inl ⟨by rfl, fun W9 hW => by clear hHeld hW; simp only [jA, jB, jC]; go_simp⟩) ?_
    simp only [Act.put, jA, jB, jC, jD, jE, jF]
    refine tkH 17 (.int .i64 (m : Int)) rfl (by kernel_rfl) (fun _ _ _ => False.elim) hHeld (Or.inl ⟨by rfl, fun W9 hW => by obtain ⟨q0, q1, q2, q3, q4, q5, q6, q7⟩ := HKL.out _ hW.out; clear hHeld hW; simp only [jA, jB, jC]; go_simp⟩) ?_
    simp only [Act.put, jA, jB, jC, jD, jE, jF]
    refine tkH 18 (.pointer (some ⟨sb, so + m * 3, none⟩)) rfl (by kernel_rfl) (fun _ _ _ => False.elim) hHeld (Or.inl ⟨by rfl, fun W9 hW => by clear hHeld hW; simp only [jA, jB, jC]; go_simp⟩) ?_
    simp only [Act.put, jA, jB, jC, jD, jE, jF]
    refine tkH 19 (.agg #[.int .i64 u.k, .int .i64 u.i, .string ⟨u.s.toArray⟩]) rfl (by kernel_rfl) (fun _ _ _ => False.elim) hHeld (Or.inl ⟨by rfl, fun W9 hW => by obtain ⟨q0, q1, q2, q3, q4, q5, q6, q7⟩ := HKL.out _ hW.out; clear hHeld hW; simp only [jA, jB, jC]; go_simp⟩) ?_
    simp only [Act.put, jA, jB, jC, jD, jE, jF]
    refine wpAnyH_ready (rs := [9, 20]) (by kernel_rfl) (by simp) (AllReadyH.cons rfl ?_ (AllReadyH.cons rfl ?_ AllReadyH.nil))
    · intro K hK
      go_simp
      have hza := heap_alloc_new Wd (.cells #[.int .i64 v.k, .int .i64 v.i, .string ⟨v.s.toArray⟩] 44)
      have hsa : (Wd.alloc (.cells #[.int .i64 v.k, .int .i64 v.i, .string ⟨v.s.toArray⟩] 44)).heap.size = Wd.heap.size + 1 := by simp
      have HOc2 := hid (HOc1.out.alloc (.cells #[.int .i64 v.k, .int .i64 v.i, .string ⟨v.s.toArray⟩] 44))
      have HOd2 := hid (HOd1.out.alloc (.cells #[.int .i64 v.k, .int .i64 v.i, .string ⟨v.s.toArray⟩] 44))
      skip
      have hwd : Wd.heap.size ≤ Wd.heap.size := (Nat.le_refl _)
      refine hK.out _ _ (hid (hHeld.out.alloc hHeld.out.size (.cells #[.int .i64 v.k, .int .i64 v.i, .string ⟨v.s.toArray⟩] 44))) (fun hHeld2 => ?_)
      clear hK K
      try simp only [Act.put, jA, jB, jC, jD, jE, jF]
      generalize Wd.alloc (.cells #[.int .i64 v.k, .int .i64 v.i, .string ⟨v.s.toArray⟩] 44) = Wa1 at *
      clear hHeld
      have hHeld := hHeld2
      have HZWa1 := hid hza
      have HLEWa1 : Hid (Wd.heap.size ≤ Wd.heap.size ∧ Wa1.heap.size = Wd.heap.size + 1) := hid ⟨hwd, hsa⟩
      skip
      clear hHeld2 hza hsa hwd 
      have HOcWa1 := HOc2
      have HOdWa1 := HOd2
      clear HOc2 HOd2
      refine wpAnyH_ready (rs := [10, 20]) (by kernel_rfl) (by simp) (AllReadyH.cons rfl ?_ (AllReadyH.cons rfl ?_ AllReadyH.nil))
      · intro K hK

        refine step_v1 (by rfl) _ _ 28 rfl w9.heap.size 44 Tryd.underlying28 _ info_val (by decide) (.slice ac n cc) n _ rfl HOcWa1.out (Wd.heap.size) v 44 rfl HZWa1.out (by omega) hHeld.out.size ?_
        intro vc Wa2 o1 g1 f1
        have HB1 : Hid (Below w9.heap.size w9 Wa2) := hid (hHeld.out.grown g1 hHeld.out.size (fun j hj => (HOcWa1.out.lt j hj).1))
        have HOcWa2 : Hid (Wa2.ownsRow w9.heap.size 44 3 vc (n + 1) (cellsL (pickL r (X.cols.take (n + 1))))) := hid (by rw [HTr.out, cellsL_app]; exact o1)
        have HOdWa2 := hid (own_keep HOdWa1.out (Keep.of_grown (X := fun q => (Value.slice ac n cc).ownBlock = some q) g1 (fun q e => e)) (fun q hq hc => HDJ.out q hc hq))
        have HDJ1 : Hid (∀ q, vc.ownBlock = some q → ¬ (Value.slice ad n cd).ownBlock = some q) := hid (fun q hq hd => by
          rcases f1 q hq with h | h
          · exact HDJ.out q h hd
          · have h1 := HLd.out q hd
            have h2 : Wd.heap.size ≤ Wa1.heap.size := (by have := HLEWa1.out; omega)
            omega)
        skip
        have HLEWa2 : Hid (Wd.heap.size ≤ Wa2.heap.size) := hid (Nat.le_trans (by have := HLEWa1.out; omega) g1.size)
        clear o1 g1 f1
        refine hK.out _ _ HB1 (fun hHeld2 => ?_)
        clear hK K HB1 hHeld
        have hHeld := hHeld2
        clear hHeld2
        try simp only [Act.put, jA, jB, jC, jD, jE, jF]
        refine rdH 20 (by kernel_rfl) rfl fun K hK => ?_
        go_simp
        have hza := heap_alloc_new Wa2 (.cells #[.int .i64 u.k, .int .i64 u.i, .string ⟨u.s.toArray⟩] 44)
        have hsa : (Wa2.alloc (.cells #[.int .i64 u.k, .int .i64 u.i, .string ⟨u.s.toArray⟩] 44)).heap.size = Wa2.heap.size + 1 := by simp
        have HOc2 := hid (HOcWa2.out.alloc (.cells #[.int .i64 u.k, .int .i64 u.i, .string ⟨u.s.toArray⟩] 44))
        have HOd2 := hid (HOdWa2.out.alloc (.cells #[.int .i64 u.k, .int .i64 u.i, .string ⟨u.s.toArray⟩] 44))
        skip
        have hwd : Wd.heap.size ≤ Wa2.heap.size := HLEWa2.out
        refine hK.out _ _ (hid (hHeld.out.alloc hHeld.out.size (.cells #[.int .i64 u.k, .int .i64 u.i, .string ⟨u.s.toArray⟩] 44))) (fun hHeld2 => ?_)
        clear hK K
        try simp only [Act.put, jA, jB, jC, jD, jE, jF]
        generalize Wa2.alloc (.cells #[.int .i64 u.k, .int .i64 u.i, .string ⟨u.s.toArray⟩] 44) = Wa3 at *
        clear hHeld
        have hHeld := hHeld2
        have HZWa3 := hid hza
        have HLEWa3 : Hid (Wd.heap.size ≤ Wa2.heap.size ∧ Wa3.heap.size = Wa2.heap.size + 1) := hid ⟨hwd, hsa⟩
        skip
        clear hHeld2 hza hsa hwd 
        have HOcWa3 := HOc2
        have HOdWa3 := HOd2
        clear HOc2 HOd2
        refine rdH 21 (by kernel_rfl) rfl fun K hK => ?_
        refine step_v1 (by rfl) _ _ 28 rfl w9.heap.size 44 Tryd.underlying28 _ info_val (by decide) (.slice ad n cd) n _ rfl HOdWa3.out (Wa2.heap.size) u 44 rfl HZWa3.out (by omega) hHeld.out.size ?_
        intro vd Wa4 o1 g1 f1
        have HB1 : Hid (Below w9.heap.size w9 Wa4) := hid (hHeld.out.grown g1 hHeld.out.size (fun j hj => (HOdWa3.out.lt j hj).1))
        have HOdWa4 : Hid (Wa4.ownsRow w9.heap.size 44 3 vd (n + 1) (cellsL (pickL s (X.cols.take (n + 1))))) := hid (by rw [HTs.out, cellsL_app]; exact o1)
        have HOcWa4 := hid (own_keep HOcWa3.out (Keep.of_grown (X := fun q => (Value.slice ad n cd).ownBlock = some q) g1 (fun q e => e)) (fun q hq hd => HDJ1.out q hq hd))
        have HDJ2 : Hid (∀ q, vc.ownBlock = some q → ¬ vd.ownBlock = some q) := hid (fun q hq hd => by
          rcases f1 q hd with h | h
          · exact HDJ1.out q hq h
          · have h1 := (HOcWa3.out.lt q hq).2
            omega)
        clear o1 g1 f1
        refine hK.out _ _ HB1 (fun hHeld2 => ?_)
        clear hK K hHeld
        have hHeld := hHeld2
        clear hHeld2
        try simp only [Act.put, jA, jB, jC, jD, jE, jF]
        obtain ⟨ac9, cc9, rfl⟩ : ∃ a c, vc = .slice a (n + 1) c := by
          have h := (Vs.own (l := pickL r (X.cols.take (n + 1))) (by rw [pickL_len, List.length_take, Nat.min_eq_left (by omega)]; exact HOcWa4.out)).form
          obtain ⟨a, c, e, -⟩ := h
          rw [pickL_len, List.length_take, Nat.min_eq_left (by omega)] at e
          exact ⟨a, c, e⟩
        obtain ⟨ad9, cd9, rfl⟩ : ∃ a c, vd = .slice a (n + 1) c := by
          have h := (Vs.own (l := pickL s (X.cols.take (n + 1))) (by rw [pickL_len, List.length_take, Nat.min_eq_left (by omega)]; exact HOdWa4.out)).form
          obtain ⟨a, c, e, -⟩ := h
          rw [pickL_len, List.length_take, Nat.min_eq_left (by omega)] at e
          exact ⟨a, c, e⟩
        refine tkH 22 (.slice ac9 (n + 1) cc9) rfl (by kernel_rfl) (fun _ _ _ => False.elim) hHeld (Or.inl ⟨by rfl, fun W9 hW => by clear hHeld hW; simp only [jA, jB, jC]; go_simp⟩) ?_
        simp only [Act.put, jA, jB, jC, jD, jE, jF]
        refine tkH 23 (.slice ad9 (n + 1) cd9) rfl (by kernel_rfl) (fun _ _ _ => False.elim) hHeld (Or.inl ⟨by rfl, fun W9 hW => by clear hHeld hW; simp only [jA, jB, jC]; go_simp⟩) ?_
        simp only [Act.put, jA, jB, jC, jD, jE, jF]
        refine wpAnyH_done (by kernel_rfl) (NoPanic.normal ?_) _
        clear hHeld
        go_wp2_with fail
        go_roundw
        case rel => exact ⟨n + 1, ac9, cc9, ad9, cd9, by omega, by go_num, rfl, rfl, HOcWa4, HOdWa4, HDJ2, HB1⟩
        case measure => simp [intOf]; omega
      · intro K hK
        go_simp
        have hza := heap_alloc_new Wa1 (.cells #[.int .i64 u.k, .int .i64 u.i, .string ⟨u.s.toArray⟩] 44)
        have hsa : (Wa1.alloc (.cells #[.int .i64 u.k, .int .i64 u.i, .string ⟨u.s.toArray⟩] 44)).heap.size = Wa1.heap.size + 1 := by simp
        have HOc2 := hid (HOcWa1.out.alloc (.cells #[.int .i64 u.k, .int .i64 u.i, .string ⟨u.s.toArray⟩] 44))
        have HOd2 := hid (HOdWa1.out.alloc (.cells #[.int .i64 u.k, .int .i64 u.i, .string ⟨u.s.toArray⟩] 44))
        have hzo := (((Below.refl Wa1.heap.size Wa1).alloc (Nat.le_refl _) (.cells #[.int .i64 u.k, .int .i64 u.i, .string ⟨u.s.toArray⟩] 44)).block _ (lt_of_block HZWa1.out)).trans HZWa1.out
        have hwd : Wd.heap.size ≤ Wa1.heap.size := (by have := HLEWa1.out; omega)
        refine hK.out _ _ (hid (hHeld.out.alloc hHeld.out.size (.cells #[.int .i64 u.k, .int .i64 u.i, .string ⟨u.s.toArray⟩] 44))) (fun hHeld2 => ?_)
        clear hK K
        try simp only [Act.put, jA, jB, jC, jD, jE, jF]
        generalize Wa1.alloc (.cells #[.int .i64 u.k, .int .i64 u.i, .string ⟨u.s.toArray⟩] 44) = Wa5 at *
        clear hHeld
        have hHeld := hHeld2
        have HZWa5 := hid hza
        have HLEWa5 : Hid (Wd.heap.size ≤ Wa1.heap.size ∧ Wa5.heap.size = Wa1.heap.size + 1) := hid ⟨hwd, hsa⟩
        have HZOWa5 := hid hzo
        clear hHeld2 hza hsa hwd hzo
        have HOcWa5 := HOc2
        have HOdWa5 := HOd2
        clear HOc2 HOd2
        refine rdH 10 (by kernel_rfl) rfl fun K hK => ?_
        refine step_v1 (by rfl) _ _ 28 rfl w9.heap.size 44 Tryd.underlying28 _ info_val (by decide) (.slice ac n cc) n _ rfl HOcWa5.out (Wd.heap.size) v 44 rfl HZOWa5.out (by omega) hHeld.out.size ?_
        intro vc Wa6 o1 g1 f1
        have HB1 : Hid (Below w9.heap.size w9 Wa6) := hid (hHeld.out.grown g1 hHeld.out.size (fun j hj => (HOcWa5.out.lt j hj).1))
        have HOcWa6 : Hid (Wa6.ownsRow w9.heap.size 44 3 vc (n + 1) (cellsL (pickL r (X.cols.take (n + 1))))) := hid (by rw [HTr.out, cellsL_app]; exact o1)
        have HOdWa6 := hid (own_keep HOdWa5.out (Keep.of_grown (X := fun q => (Value.slice ac n cc).ownBlock = some q) g1 (fun q e => e)) (fun q hq hc => HDJ.out q hc hq))
        have HDJ1 : Hid (∀ q, vc.ownBlock = some q → ¬ (Value.slice ad n cd).ownBlock = some q) := hid (fun q hq hd => by
          rcases f1 q hq with h | h
          · exact HDJ.out q h hd
          · have h1 := HLd.out q hd
            have h2 : Wd.heap.size ≤ Wa5.heap.size := (by have := HLEWa5.out; omega)
            omega)
        have HZuWa6 := hid (heap_kept g1 HZWa5.out (fun e => by have h1 := HLc.out _ e.symm; have h2 : Wd.heap.size ≤ Wa1.heap.size := (by have := HLEWa5.out; omega); omega))
        have HLEWa6 : Hid (Wd.heap.size ≤ Wa6.heap.size) := hid (Nat.le_trans (by have := HLEWa5.out; omega) g1.size)
        clear o1 g1 f1
        refine hK.out _ _ HB1 (fun hHeld2 => ?_)
        clear hK K HB1 hHeld
        have hHeld := hHeld2
        clear hHeld2
        try simp only [Act.put, jA, jB, jC, jD, jE, jF]
        refine rdH 21 (by kernel_rfl) rfl fun K hK => ?_
        refine step_v1 (by rfl) _ _ 28 rfl w9.heap.size 44 Tryd.underlying28 _ info_val (by decide) (.slice ad n cd) n _ rfl HOdWa6.out (Wa1.heap.size) u 44 rfl HZuWa6.out (by omega) hHeld.out.size ?_
        intro vd Wa7 o1 g1 f1
        have HB1 : Hid (Below w9.heap.size w9 Wa7) := hid (hHeld.out.grown g1 hHeld.out.size (fun j hj => (HOdWa6.out.lt j hj).1))
        have HOdWa7 : Hid (Wa7.ownsRow w9.heap.size 44 3 vd (n + 1) (cellsL (pickL s (X.cols.take (n + 1))))) := hid (by rw [HTs.out, cellsL_app]; exact o1)
        have HOcWa7 := hid (own_keep HOcWa6.out (Keep.of_grown (X := fun q => (Value.slice ad n cd).ownBlock = some q) g1 (fun q e => e)) (fun q hq hd => HDJ1.out q hq hd))
        have HDJ2 : Hid (∀ q, vc.ownBlock = some q → ¬ vd.ownBlock = some q) := hid (fun q hq hd => by
          rcases f1 q hd with h | h
          · exact HDJ1.out q hq h
          · have h1 := (HOcWa6.out.lt q hq).2
            omega)
        clear o1 g1 f1
        refine hK.out _ _ HB1 (fun hHeld2 => ?_)
        clear hK K hHeld
        have hHeld := hHeld2
        clear hHeld2
        try simp only [Act.put, jA, jB, jC, jD, jE, jF]
        obtain ⟨ac9, cc9, rfl⟩ : ∃ a c, vc = .slice a (n + 1) c := by
          have h := (Vs.own (l := pickL r (X.cols.take (n + 1))) (by rw [pickL_len, List.length_take, Nat.min_eq_left (by omega)]; exact HOcWa7.out)).form
          obtain ⟨a, c, e, -⟩ := h
          rw [pickL_len, List.length_take, Nat.min_eq_left (by omega)] at e
          exact ⟨a, c, e⟩
        obtain ⟨ad9, cd9, rfl⟩ : ∃ a c, vd = .slice a (n + 1) c := by
          have h := (Vs.own (l := pickL s (X.cols.take (n + 1))) (by rw [pickL_len, List.length_take, Nat.min_eq_left (by omega)]; exact HOdWa7.out)).form
          obtain ⟨a, c, e, -⟩ := h
          rw [pickL_len, List.length_take, Nat.min_eq_left (by omega)] at e
          exact ⟨a, c, e⟩
        refine tkH 22 (.slice ac9 (n + 1) cc9) rfl (by kernel_rfl) (fun _ _ _ => False.elim) hHeld (Or.inl ⟨by rfl, fun W9 hW => by clear hHeld hW; simp only [jA, jB, jC]; go_simp⟩) ?_
        simp only [Act.put, jA, jB, jC, jD, jE, jF]
        refine tkH 23 (.slice ad9 (n + 1) cd9) rfl (by kernel_rfl) (fun _ _ _ => False.elim) hHeld (Or.inl ⟨by rfl, fun W9 hW => by clear hHeld hW; simp only [jA, jB, jC]; go_simp⟩) ?_
        simp only [Act.put, jA, jB, jC, jD, jE, jF]
        refine wpAnyH_done (by kernel_rfl) (NoPanic.normal ?_) _
        clear hHeld
        go_wp2_with fail
        go_roundw
        case rel => exact ⟨n + 1, ac9, cc9, ad9, cd9, by omega, by go_num, rfl, rfl, HOcWa7, HOdWa7, HDJ2, HB1⟩
        case measure => simp [intOf]; omega
    · intro K hK
      go_simp
      have hza := heap_alloc_new Wd (.cells #[.int .i64 u.k, .int .i64 u.i, .string ⟨u.s.toArray⟩] 44)
      have hsa : (Wd.alloc (.cells #[.int .i64 u.k, .int .i64 u.i, .string ⟨u.s.toArray⟩] 44)).heap.size = Wd.heap.size + 1 := by simp
      have HOc2 := hid (HOc1.out.alloc (.cells #[.int .i64 u.k, .int .i64 u.i, .string ⟨u.s.toArray⟩] 44))
      have HOd2 := hid (HOd1.out.alloc (.cells #[.int .i64 u.k, .int .i64 u.i, .string ⟨u.s.toArray⟩] 44))
      skip
      have hwd : Wd.heap.size ≤ Wd.heap.size := (Nat.le_refl _)
      refine hK.out _ _ (hid (hHeld.out.alloc hHeld.out.size (.cells #[.int .i64 u.k, .int .i64 u.i, .string ⟨u.s.toArray⟩] 44))) (fun hHeld2 => ?_)
      clear hK K
      try simp only [Act.put, jA, jB, jC, jD, jE, jF]
      generalize Wd.alloc (.cells #[.int .i64 u.k, .int .i64 u.i, .string ⟨u.s.toArray⟩] 44) = Wa8 at *
      clear hHeld
      have hHeld := hHeld2
      have HZWa8 := hid hza
      have HLEWa8 : Hid (Wd.heap.size ≤ Wd.heap.size ∧ Wa8.heap.size = Wd.heap.size + 1) := hid ⟨hwd, hsa⟩
      skip
      clear hHeld2 hza hsa hwd 
      have HOcWa8 := HOc2
      have HOdWa8 := HOd2
      clear HOc2 HOd2
      refine rdH 9 (by kernel_rfl) rfl fun K hK => ?_
      go_simp
      have hza := heap_alloc_new Wa8 (.cells #[.int .i64 v.k, .int .i64 v.i, .string ⟨v.s.toArray⟩] 44)
      have hsa : (Wa8.alloc (.cells #[.int .i64 v.k, .int .i64 v.i, .string ⟨v.s.toArray⟩] 44)).heap.size = Wa8.heap.size + 1 := by simp
      have HOc2 := hid (HOcWa8.out.alloc (.cells #[.int .i64 v.k, .int .i64 v.i, .string ⟨v.s.toArray⟩] 44))
      have HOd2 := hid (HOdWa8.out.alloc (.cells #[.int .i64 v.k, .int .i64 v.i, .string ⟨v.s.toArray⟩] 44))
      have hzo := (((Below.refl Wa8.heap.size Wa8).alloc (Nat.le_refl _) (.cells #[.int .i64 v.k, .int .i64 v.i, .string ⟨v.s.toArray⟩] 44)).block _ (lt_of_block HZWa8.out)).trans HZWa8.out
      have hwd : Wd.heap.size ≤ Wa8.heap.size := (by have := HLEWa8.out; omega)
      refine hK.out _ _ (hid (hHeld.out.alloc hHeld.out.size (.cells #[.int .i64 v.k, .int .i64 v.i, .string ⟨v.s.toArray⟩] 44))) (fun hHeld2 => ?_)
      clear hK K
      try simp only [Act.put, jA, jB, jC, jD, jE, jF]
      generalize Wa8.alloc (.cells #[.int .i64 v.k, .int .i64 v.i, .string ⟨v.s.toArray⟩] 44) = Wa9 at *
      clear hHeld
      have hHeld := hHeld2
      have HZWa9 := hid hza
      have HLEWa9 : Hid (Wd.heap.size ≤ Wa8.heap.size ∧ Wa9.heap.size = Wa8.heap.size + 1) := hid ⟨hwd, hsa⟩
      have HZOWa9 := hid hzo
      clear hHeld2 hza hsa hwd hzo
      have HOcWa9 := HOc2
      have HOdWa9 := HOd2
      clear HOc2 HOd2
      refine rdH 10 (by kernel_rfl) rfl fun K hK => ?_
      refine step_v1 (by rfl) _ _ 28 rfl w9.heap.size 44 Tryd.underlying28 _ info_val (by decide) (.slice ac n cc) n _ rfl HOcWa9.out (Wa8.heap.size) v 44 rfl HZWa9.out (by omega) hHeld.out.size ?_
      intro vc Wa10 o1 g1 f1
      have HB1 : Hid (Below w9.heap.size w9 Wa10) := hid (hHeld.out.grown g1 hHeld.out.size (fun j hj => (HOcWa9.out.lt j hj).1))
      have HOcWa10 : Hid (Wa10.ownsRow w9.heap.size 44 3 vc (n + 1) (cellsL (pickL r (X.cols.take (n + 1))))) := hid (by rw [HTr.out, cellsL_app]; exact o1)
      have HOdWa10 := hid (own_keep HOdWa9.out (Keep.of_grown (X := fun q => (Value.slice ac n cc).ownBlock = some q) g1 (fun q e => e)) (fun q hq hc => HDJ.out q hc hq))
      have HDJ1 : Hid (∀ q, vc.ownBlock = some q → ¬ (Value.slice ad n cd).ownBlock = some q) := hid (fun q hq hd => by
        rcases f1 q hq with h | h
        · exact HDJ.out q h hd
        · have h1 := HLd.out q hd
          have h2 : Wd.heap.size ≤ Wa9.heap.size := (by have := HLEWa9.out; omega)
          omega)
      have HZuWa10 := hid (heap_kept g1 HZOWa9.out (fun e => by have h1 := HLc.out _ e.symm; have h2 : Wd.heap.size ≤ Wd.heap.size := (Nat.le_refl _); omega))
      have HLEWa10 : Hid (Wd.heap.size ≤ Wa10.heap.size) := hid (Nat.le_trans (by have := HLEWa9.out; omega) g1.size)
      clear o1 g1 f1
      refine hK.out _ _ HB1 (fun hHeld2 => ?_)
      clear hK K HB1 hHeld
      have hHeld := hHeld2
      clear hHeld2
      try simp only [Act.put, jA, jB, jC, jD, jE, jF]
      refine rdH 21 (by kernel_rfl) rfl fun K hK => ?_
      refine step_v1 (by rfl) _ _ 28 rfl w9.heap.size 44 Tryd.underlying28 _ info_val (by decide) (.slice ad n cd) n _ rfl HOdWa10.out (Wd.heap.size) u 44 rfl HZuWa10.out (by omega) hHeld.out.size ?_
      intro vd Wa11 o1 g1 f1
      have HB1 : Hid (Below w9.heap.size w9 Wa11) := hid (hHeld.out.grown g1 hHeld.out.size (fun j hj => (HOdWa10.out.lt j hj).1))
      have HOdWa11 : Hid (Wa11.ownsRow w9.heap.size 44 3 vd (n + 1) (cellsL (pickL s (X.cols.take (n + 1))))) := hid (by rw [HTs.out, cellsL_app]; exact o1)
      have HOcWa11 := hid (own_keep HOcWa10.out (Keep.of_grown (X := fun q => (Value.slice ad n cd).ownBlock = some q) g1 (fun q e => e)) (fun q hq hd => HDJ1.out q hq hd))
      have HDJ2 : Hid (∀ q, vc.ownBlock = some q → ¬ vd.ownBlock = some q) := hid (fun q hq hd => by
        rcases f1 q hd with h | h
        · exact HDJ1.out q hq h
        · have h1 := (HOcWa10.out.lt q hq).2
          omega)
      clear o1 g1 f1
      refine hK.out _ _ HB1 (fun hHeld2 => ?_)
      clear hK K hHeld
      have hHeld := hHeld2
      clear hHeld2
      try simp only [Act.put, jA, jB, jC, jD, jE, jF]
      obtain ⟨ac9, cc9, rfl⟩ : ∃ a c, vc = .slice a (n + 1) c := by
        have h := (Vs.own (l := pickL r (X.cols.take (n + 1))) (by rw [pickL_len, List.length_take, Nat.min_eq_left (by omega)]; exact HOcWa11.out)).form
        obtain ⟨a, c, e, -⟩ := h
        rw [pickL_len, List.length_take, Nat.min_eq_left (by omega)] at e
        exact ⟨a, c, e⟩
      obtain ⟨ad9, cd9, rfl⟩ : ∃ a c, vd = .slice a (n + 1) c := by
        have h := (Vs.own (l := pickL s (X.cols.take (n + 1))) (by rw [pickL_len, List.length_take, Nat.min_eq_left (by omega)]; exact HOdWa11.out)).form
        obtain ⟨a, c, e, -⟩ := h
        rw [pickL_len, List.length_take, Nat.min_eq_left (by omega)] at e
        exact ⟨a, c, e⟩
      refine tkH 22 (.slice ac9 (n + 1) cc9) rfl (by kernel_rfl) (fun _ _ _ => False.elim) hHeld (Or.inl ⟨by rfl, fun W9 hW => by clear hHeld hW; simp only [jA, jB, jC]; go_simp⟩) ?_
      simp only [Act.put, jA, jB, jC, jD, jE, jF]
      refine tkH 23 (.slice ad9 (n + 1) cd9) rfl (by kernel_rfl) (fun _ _ _ => False.elim) hHeld (Or.inl ⟨by rfl, fun W9 hW => by clear hHeld hW; simp only [jA, jB, jC]; go_simp⟩) ?_
      simp only [Act.put, jA, jB, jC, jD, jE, jF]
      refine wpAnyH_done (by kernel_rfl) (NoPanic.normal ?_) _
      clear hHeld
      go_wp2_with fail
      go_roundw
      case rel => exact ⟨n + 1, ac9, cc9, ad9, cd9, by omega, by go_num, rfl, rfl, HOcWa11, HOdWa11, HDJ2, HB1⟩
      case measure => simp [intOf]; omega
  obtain rfl : n = X.cols.length := by omega
  have hki : ¬ (X.cols.length : Int) < (X.cols.length : Int) := by omega
  rw [List.take_length] at HOc HOd
  have HCr := hid (below_step HCw9.out HBr.out)
  have hx3 := (HKT.out _ HCr.out).2.2.2.2.2.2.2.1
  have HVc : Hid (Vs wr (.slice ac X.cols.length cc) (pickL r X.cols)) := hid (Vs.own (by rw [pickL_len]; exact HOc.out))
  have HVd : Hid (Vs wr (.slice ad X.cols.length cd) (pickL s X.cols)) := hid (Vs.own (by rw [pickL_len]; exact HOd.out))
  have HVAr := hid (HVA.out.old HBr.out)
  clear HOc HOd HDJ hn hlt
  have CC := hid (rcmp_any _ _ (pickL r X.cols) (pickL s X.cols) wr HVc.out HVd.out HOC.out.ok HOD.out.ok)
  go_upto_region 12 with (first | (go_at_call 17; refine CC.out.mono ?_; rintro en w11 ⟨rfl, hb11⟩; have HCw11 := hid (below_step HCr.out hb11); have HVA2 := hid (HVAr.out.old hb11); clear hb11 hx3 CC))
  clear HVc HVd HVAr HVA
  have HVA := HVA2
  clear HVA2 hki HBr HCr
  refine wp_region_noPanic ?_
  refine wp_region_held_drew (S := fun V => Hid (Below w11.heap.size w11 V)) (by kernel_rfl) (hid (Below.drew (Below.refl _ _))) (fun hHeld => ?_)
  generalize w11.drew = Wd at *
  refine tkH 0 (.agg #[.int .i64 T.id, .string ⟨T.name.toArray⟩, .slice a1 T.cols.length e1, .slice a3 T.key.length e3]) rfl (by kernel_rfl) (fun _ _ _ => False.elim) hHeld (Or.inl ⟨by rfl, fun W9 hW => by obtain ⟨q0, q1, q2, q3, q4, q5, q6, q7, q8, q9, q10⟩ := HKT.out _ (below_step HCw11.out hW.out); clear hHeld hW; simp only [jA, jB, jC]; go_simp⟩) ?_
  simp only [Act.put, jA, jB, jC, jD, jE, jF]
  refine tkH 1 (.agg #[.int .i64 X.id, .int .i64 X.table, .string ⟨X.name.toArray⟩, .slice a4 X.cols.length e4, .bool X.uniq, .int .i64 X.state, .bool X.bad]) rfl (by kernel_rfl) (fun _ _ _ => False.elim) hHeld (Or.inl ⟨by rfl, fun W9 hW => by obtain ⟨q0, q1, q2, q3, q4, q5, q6, q7, q8, q9, q10⟩ := HKT.out _ (below_step HCw11.out hW.out); clear hHeld hW; simp only [jA, jB, jC]; go_simp⟩) ?_
  simp only [Act.put, jA, jB, jC, jD, jE, jF]
  refine tkH 2 (.slice b2 r.length c2) rfl (by kernel_rfl) (fun _ _ _ => False.elim) hHeld (Or.inl ⟨by rfl, fun W9 hW => by clear hHeld hW; simp only [jA, jB, jC]; go_simp⟩) ?_
  simp only [Act.put, jA, jB, jC, jD, jE, jF]
  refine tkH 6 (.agg #[.int .i64 T.id, .string ⟨T.name.toArray⟩, .slice a1 T.cols.length e1, .slice a3 T.key.length e3]) rfl (by kernel_rfl) (fun _ _ _ => False.elim) hHeld (Or.inl ⟨by rfl, fun W9 hW => by obtain ⟨q0, q1, q2, q3, q4, q5, q6, q7, q8, q9, q10⟩ := HKT.out _ (below_step HCw11.out hW.out); clear hHeld hW; simp only [jA, jB, jC]; go_simp⟩) ?_
  simp only [Act.put, jA, jB, jC, jD, jE, jF]
  refine tkH 7 (.agg #[.int .i64 X.id, .int .i64 X.table, .string ⟨X.name.toArray⟩, .slice a4 X.cols.length e4, .bool X.uniq, .int .i64 X.state, .bool X.bad]) rfl (by kernel_rfl) (fun _ _ _ => False.elim) hHeld (Or.inl ⟨by rfl, fun W9 hW => by obtain ⟨q0, q1, q2, q3, q4, q5, q6, q7, q8, q9, q10⟩ := HKT.out _ (below_step HCw11.out hW.out); clear hHeld hW; simp only [jA, jB, jC]; go_simp⟩) ?_
  simp only [Act.put, jA, jB, jC, jD, jE, jF]
  refine tkH 8 (.slice b3 s.length c3) rfl (by kernel_rfl) (fun _ _ _ => False.elim) hHeld (Or.inl ⟨by rfl, fun W9 hW => by clear hHeld hW; simp only [jA, jB, jC]; go_simp⟩) ?_
  simp only [Act.put, jA, jB, jC, jD, jE, jF]
  refine rdH 3 (by kernel_rfl) rfl fun K hK => ?_
  go_simp
  have CQ := hid (entry_ok (HT2.out.old (below_step HCw11.out hHeld.out)) (HX2.out.old (below_step HCw11.out hHeld.out)) HTI.out (HR2.out.old (below_step HCw11.out hHeld.out)) HRR.out)
  go_wp2_with (first | (go_at_call 8; refine CQ.out.mono ?_; rintro en wF ⟨vk, vv, rfl, hpE, hbE⟩; have HBE := hid (below_step hHeld.out hbE); obtain ⟨ek, ec, rfl, hrE⟩ := zown_rd hpE.1; have HRE1 := hid hrE; have HVA2 := hid (HVA.out.old (below_step hHeld.out hbE)); clear hpE hrE hbE; have HCwF := hid (below_step HCw11.out HBE.out)))
  clear CQ hHeld
  refine hK.out _ _ HBE (fun hHeld => ?_)
  clear hK K
  try simp only [Act.put, jA, jB, jC, jD, jE, jF]
  refine wpAnyH_low (S' := fun V => Hid (Below wF.heap.size wF V)) (fun V hV => hid (below_step HBE.out hV.out)) _ _ _ _ ?_
  clear hHeld HBE
  have hHeld : Hid (Below wF.heap.size wF wF) := hid (Below.refl _ _)
  refine tkH 4 (.slice ek (entKey T X r).length ec) rfl (by kernel_rfl) (fun _ _ _ => False.elim) hHeld (Or.inl ⟨by rfl, fun W9 hW => by have t1 := fun V => zfield (.slice ek (entKey T X r).length ec) vv V; clear hHeld hW; simp only [jA, jB, jC]; go_simp⟩) ?_
  simp only [Act.put, jA, jB, jC, jD, jE, jF]
  refine tkH 5 (.string ⟨(entKey T X r).toArray⟩) rfl (by kernel_rfl) (fun _ _ _ => False.elim) hHeld (Or.inl ⟨by rfl, fun W9 hW => by have t1 := (HRE1.out.old hW.out).conv (P := Tryd.prog) 32 9 5 Tryd.underlying32 Tryd.underlying5 Tryd.underlying9; clear hHeld hW; simp only [jA, jB, jC]; go_simp⟩) ?_
  simp only [Act.put, jA, jB, jC, jD, jE, jF]
  refine rdH 9 (by kernel_rfl) rfl fun K hK => ?_
  go_simp
  have CQ := hid (entry_ok (HT2.out.old (below_step HCwF.out hHeld.out)) (HX2.out.old (below_step HCwF.out hHeld.out)) HTI.out (HS2.out.old (below_step HCwF.out hHeld.out)) HSS.out)
  go_wp2_with (first | (go_at_call 8; refine CQ.out.mono ?_; rintro en w12 ⟨vl, vm, rfl, hpE, hbE⟩; have HBE := hid (below_step hHeld.out hbE); obtain ⟨fk, fc, rfl, hrE⟩ := zown_rd hpE.1; have HRE2 := hid hrE; have HVA3 := hid (HVA2.out.old (below_step hHeld.out hbE)); clear hpE hrE hbE; have HCw12 := hid (below_step HCwF.out HBE.out)))
  clear CQ hHeld
  refine hK.out _ _ HBE (fun hHeld => ?_)
  clear hK K
  try simp only [Act.put, jA, jB, jC, jD, jE, jF]
  refine wpAnyH_low (S' := fun V => Hid (Below w12.heap.size w12 V)) (fun V hV => hid (below_step HBE.out hV.out)) _ _ _ _ ?_
  clear hHeld HBE
  have hHeld : Hid (Below w12.heap.size w12 w12) := hid (Below.refl _ _)
  refine tkH 10 (.slice fk (entKey T X s).length fc) rfl (by kernel_rfl) (fun _ _ _ => False.elim) hHeld (Or.inl ⟨by rfl, fun W9 hW => by have t1 := fun V => zfield (.slice fk (entKey T X s).length fc) vm V; clear hHeld hW; simp only [jA, jB, jC]; go_simp⟩) ?_
  simp only [Act.put, jA, jB, jC, jD, jE, jF]
  refine tkH 11 (.string ⟨(entKey T X s).toArray⟩) rfl (by kernel_rfl) (fun _ _ _ => False.elim) hHeld (Or.inl ⟨by rfl, fun W9 hW => by have t1 := (HRE2.out.old hW.out).conv (P := Tryd.prog) 32 9 5 Tryd.underlying32 Tryd.underlying5 Tryd.underlying9; clear hHeld hW; simp only [jA, jB, jC]; go_simp⟩) ?_
  simp only [Act.put, jA, jB, jC, jD, jE, jF]
  refine tkH 12 (.string ⟨(entKey T X r).toArray⟩) rfl (by kernel_rfl) (fun _ _ _ => False.elim) hHeld (Or.inl ⟨by rfl, fun W9 hW => by clear hHeld hW; simp only [jA, jB, jC]; go_simp⟩) ?_
  simp only [Act.put, jA, jB, jC, jD, jE, jF]
  refine tkH 13 (.string ⟨(entKey T X s).toArray⟩) rfl (by kernel_rfl) (fun _ _ _ => False.elim) hHeld (Or.inl ⟨by rfl, fun W9 hW => by clear hHeld hW; simp only [jA, jB, jC]; go_simp⟩) ?_
  simp only [Act.put, jA, jB, jC, jD, jE, jF]
  refine wpAnyH_done (by kernel_rfl) (NoPanic.normal ?_) _
  clear hHeld
  clear HVA HVA2 HRE1 HRE2
  have HVA := HVA3
  clear HVA3
  have HLT1 : Hid (cmpVs (pickL r X.cols) (pickL s X.cols) < 0 → Op.bytesLess (entKey T X r) (entKey T X s) = true) := hid (ent_less HTI.out HRR.out HSS.out)
  have HLT2 : Hid (cmpVs (pickL s X.cols) (pickL r X.cols) < 0 → Op.bytesLess (entKey T X s) (entKey T X r) = true) := hid (ent_less HTI.out HSS.out HRR.out)
  have HSW := hid (cmpVs_swap HOC.out HOD.out)
  have HTRI := hid (cmp_tri HOC.out HOD.out)
  generalize cmpVs (pickL r X.cols) (pickL s X.cols) = kk at *
  go_upto_region 13 with fail
  skip
  go_cut [135] from 120 to 135 (fun s9 wx => s9 = .bool false ∧ wx = w12)
  case first =>
    rcases HTRI.out with rfl | rfl | rfl
    · have hq := HLT1.out (by decide)
      clear HLT1 HLT2 HSW HTRI
      go_wp2_with fail
      go_meet
      exact ⟨rfl, rfl⟩
    · clear HLT1 HLT2 HSW HTRI
      go_wp2_with fail
      go_meet
      exact ⟨rfl, rfl⟩
    · obtain ⟨hq, hq2⟩ := less_anti (HLT2.out (by rw [HSW.out]; decide))
      clear HLT1 HLT2 HSW HTRI
      go_wp2_with fail
      go_meet
      exact ⟨rfl, rfl⟩
  case rest =>
  obtain ⟨rfl, hcw⟩ := hcut
  subst hcw
  clear HLT1 HLT2 HSW HTRI
  obtain ⟨z0, z1, z2, z3, i0, i1, i2, i3, i4, i5, i6⟩ := HKT.out _ HCw12.out
  by_cases hok : encE l = 0 ∧ encE k = 0
  case neg =>
    have hbad : encE l ≠ 0 ∨ encE k ≠ 0 := by
      by_cases h : encE l = 0
      · exact Or.inr (fun e => hok ⟨h, e⟩)
      · exact Or.inl h
    have CS := hid (rspan_bad (HG2.out.kept (Keeps.below HCw12.out HG2.out.lt)) (HT2.out.old HCw12.out) HTI.out.tid (HL2.out.old HCw12.out) (HK2.out.old HCw12.out) HLI.out (by have := HL40.out.1; omega) HKI.out (by have := HL40.out.2; omega) hbad)
    have HBAD := hid hbad
    clear hbad hok
    go_upto_region 16 with (first | (go_at_call 18; refine CS.out.mono ?_; rintro en w15 ⟨rfl, hb15⟩; have HCw15 := hid (below_step HCw12.out hb15); clear z0 z1 z2 z3 i0 i1 i2 i3 i4 i5 i6 hb15 CS))
    have HCx := hid (HCw15.out.alloc HCw15.out.size (.cells #[.slice none 0 0, .slice none 0 0] 49))
    generalize w15.alloc (.cells #[.slice none 0 0, .slice none 0 0] 49) = w16 at *
    have CE1 := hid (renc_any _ l w16 (HL2.out.old HCx.out) HLI.out (by have := HL40.out.1; omega))
    go_upto_region 18 with (first
      | (go_at_call 19; refine CE1.out.mono ?_; rintro en w17 h17; obtain ⟨ao1, co1, rfl, -, hb17⟩ := h17.elim; have HCw17 := hid (below_step HCx.out hb17); have CE2 := hid (renc_any _ k w17 (HK2.out.old HCw17.out) HKI.out (by have := HL40.out.2; omega)); clear CE1 h17 hb17)
      | (go_at_call 19; refine CE2.out.mono ?_; rintro en w18 h18; obtain ⟨ao2, co2, rfl, -, hb18⟩ := h18.elim; have HCw18 := hid (below_step HCw17.out hb18); clear CE2 h18 hb18))
    by_cases h1 : encE l = 0
    · have h2 : encE k ≠ 0 := by rcases HBAD.out with h | h; exact absurd h1 h; exact h
      have h3 : (encE k == 0) = false := by simpa using h2
      rw [h1]
      clear HBAD
      generalize encE k = ek9 at *
      go_wp2_with fail
      go_ret
      exact ⟨by first | (simp; done) | (simpa using h2; done), below_step HB.out HCw18.out⟩
    · have h3 : (encE l == 0) = false := by simpa using h1
      clear HBAD
      generalize encE l = el9 at *
      go_wp2_with fail
      go_ret
      exact ⟨by first | (simp; done) | (simpa using h1; done), below_step HB.out HCw18.out⟩
  obtain ⟨hel, hek⟩ := hok
  have HOL : Hid (OkL l ∧ l.length ≤ 16) := hid (by
    have h1 : ∀ v ∈ l, okV v := by
      unfold encE at hel
      split at hel
      · assumption
      · cases hel
    refine ⟨fun v hv => ⟨h1 v hv, HLI.out v hv⟩, ?_⟩
    rw [encE, if_pos h1] at hel
    split at hel
    · cases hel
    · omega)
  have HOK : Hid (OkL k ∧ k.length ≤ 16) := hid (by
    have h1 : ∀ v ∈ k, okV v := by
      unfold encE at hek
      split at hek
      · assumption
      · cases hek
    refine ⟨fun v hv => ⟨h1 v hv, HKI.out v hv⟩, ?_⟩
    rw [encE, if_pos h1] at hek
    split at hek
    · cases hek
    · omega)
  have HEL := hid hel
  have HEK := hid hek
  clear hel hek
  have CS := hid (rspan_ok (HT2.out.old HCw12.out) HTI.out.tid (HL2.out.old HCw12.out) (HK2.out.old HCw12.out) HLI.out HOL.out.1.ok HOL.out.2 HKI.out HOK.out.1.ok HOK.out.2)
  go_upto_region 16 with (first | (go_at_call 18; refine CS.out.mono ?_; rintro en w15 ⟨sa, sc, ta, tc, rfl, hr1, hr2, hb15⟩; have HCw15 := hid (below_step HCw12.out hb15); have HRL := hid hr1; have HRH := hid hr2; have HVA15 := hid (HVA.out.old hb15); clear z0 z1 z2 z3 i0 i1 i2 i3 i4 i5 i6 hb15 hr1 hr2 CS))
  clear HVA
  have HSN := hid (span_in (T := T) HOA.out HOL.out.1 HOK.out.1)
  obtain ⟨LO, hLO⟩ : ∃ LO, LO = spLo (headB 114 T.id) l := ⟨_, rfl⟩
  obtain ⟨HI, hHI⟩ : ∃ HI, HI = spHi (headB 114 T.id) k := ⟨_, rfl⟩
  rw [← hLO, ← hHI] at HSN
  rw [← hLO, ← hHI]
  rw [← hLO] at HRL
  rw [← hHI] at HRH
  clear hLO hHI
  have hbx := HCw15.out.alloc HCw15.out.size (.cells #[.slice sa LO.length sc, .slice ta HI.length tc] 49)
  have hby := (Below.refl w15.heap.size w15).alloc (Nat.le_refl _) (.cells #[.slice sa LO.length sc, .slice ta HI.length tc] 49)
  have hzx := heap_alloc_new w15 (.cells #[.slice sa LO.length sc, .slice ta HI.length tc] 49)
  have HRL2 := hid (HRL.out.old hby)
  have HRH2 := hid (HRH.out.old hby)
  have HVA16 := hid (HVA15.out.old hby)
  generalize w15.alloc (.cells #[.slice sa LO.length sc, .slice ta HI.length tc] 49) = w16 at *
  have HCx := hid hbx
  have HZP := hid hzx
  clear hbx hby hzx HRL HRH HVA15
  have CE1 := hid (renc_any _ l w16 (HL2.out.old HCx.out) HLI.out (by have := HL40.out.1; omega))
  go_upto_region 18 with (first
    | (go_at_call 19; refine CE1.out.mono ?_; rintro en w17 h17; obtain ⟨ao1, co1, rfl, -, hb17⟩ := h17.elim; rw [HEL.out]; have HX17 := hid hb17; have HCw17 := hid (below_step HCx.out hb17); have CE2 := hid (renc_any _ k w17 (HK2.out.old HCw17.out) HKI.out (by have := HL40.out.2; omega)); clear CE1 h17 hb17)
    | (go_at_call 19; refine CE2.out.mono ?_; rintro en w18 h18; obtain ⟨ao2, co2, rfl, -, hb18⟩ := h18.elim; rw [HEK.out]; have HX18 := hid (below_step HX17.out hb18); have HCw18 := hid (below_step HCw17.out hb18); clear CE2 h18 hb18))
  have HVA18 := hid (HVA16.out.old HX18.out)
  clear HVA16
  go_upto_region 20 with fail
  have CC1 := hid (rcmp_any _ _ l (pickL r T.key) w18 (HL2.out.old HCw18.out) HVA18.out HOL.out.1.ok HOA.out.ok)
  have CC2 : Hid (∀ V, Below w18.heap.size w18 V → Calls Tryd.prog 17 #[.slice ka T.key.length kc, .slice b5 k.length c5] V (Ans V (.int .i64 (cmpVs (pickL r T.key) k)))) := hid (fun V hV => rcmp_any _ _ (pickL r T.key) k V (HVA18.out.old hV) (HK2.out.old (below_step HCw18.out hV)) HOA.out.ok HOK.out.1.ok)
  generalize hc1 : cmpVs l (pickL r T.key) = k1 at *
  generalize hc2 : cmpVs (pickL r T.key) k = k2 at *
  clear hc1 hc2
  go_cut [27] from 161 to 175 (fun s9 wx => s9 = .bool (decide (k1 ≤ 0) && (decide ((k.length : Int) = 0) || decide (k2 < 0))) ∧ Hid (Below w18.heap.size w18 wx))
  case first =>
    by_cases q1 : k1 ≤ 0
    · by_cases q2 : (k.length : Int) = 0
      · have q2b : ((k.length : Int) == 0) = true := by simpa using q2
        have HF : Hid ((decide (k1 ≤ 0) && (decide ((k.length : Int) = 0) || decide (k2 < 0))) = true) := hid (by rw [decide_eq_true q1, decide_eq_true q2]; rfl)
        generalize (decide (k1 ≤ 0) && (decide ((k.length : Int) = 0) || decide (k2 < 0))) = bb at *
        obtain rfl := HF.out
        clear q2 HF
        go_wp2_with (first | (go_at_call 17; refine CC1.out.mono ?_; rintro en w19 ⟨rfl, hb19⟩))
        go_meet
        exact ⟨rfl, hid hb19⟩
      · have q2b : ((k.length : Int) == 0) = false := by simpa using q2
        cases q3 : decide (k2 < 0) with
        | true =>
          have HF : Hid ((decide (k1 ≤ 0) && (decide ((k.length : Int) = 0) || decide (k2 < 0))) = true) := hid (by rw [decide_eq_true q1, q3]; simp)
          generalize (decide (k1 ≤ 0) && (decide ((k.length : Int) = 0) || decide (k2 < 0))) = bb at *
          obtain rfl := HF.out
          clear HF
          have q4 : k2 < 0 := of_decide_eq_true q3
          clear q3
          go_wp2_with (first | (go_at_call 17; refine CC1.out.mono ?_; rintro en w19 ⟨rfl, hb19⟩; have HB19 := hid hb19; have CC3 := hid (CC2.out _ HB19.out); clear hb19 CC1 CC2) | (go_at_call 17; refine CC3.out.mono ?_; rintro en w20 ⟨rfl, hb20⟩))
          go_meet
          exact ⟨rfl, hid (below_step HB19.out hb20)⟩
        | false =>
          have HF : Hid ((decide (k1 ≤ 0) && (decide ((k.length : Int) = 0) || decide (k2 < 0))) = false) := hid (by rw [decide_eq_true q1, q3, decide_eq_false q2]; rfl)
          generalize (decide (k1 ≤ 0) && (decide ((k.length : Int) = 0) || decide (k2 < 0))) = bb at *
          obtain rfl := HF.out
          clear HF
          have HQ3 := hid q3
          have q4 : ¬ k2 < 0 := of_decide_eq_false q3
          clear q3
          go_wp2_with (first | (go_at_call 17; refine CC1.out.mono ?_; rintro en w19 ⟨rfl, hb19⟩; have HB19 := hid hb19; have CC3 := hid (CC2.out _ HB19.out); clear hb19 CC1 CC2) | (go_at_call 17; refine CC3.out.mono ?_; rintro en w20 ⟨rfl, hb20⟩))
          go_meet
          exact ⟨by first | rfl | (rw [HQ3.out]), hid (below_step HB19.out hb20)⟩
    · have HF : Hid ((decide (k1 ≤ 0) && (decide ((k.length : Int) = 0) || decide (k2 < 0))) = false) := hid (by rw [decide_eq_false q1]; rfl)
      generalize (decide (k1 ≤ 0) && (decide ((k.length : Int) = 0) || decide (k2 < 0))) = bb at *
      obtain rfl := HF.out
      clear HF
      go_wp2_with (first | (go_at_call 17; refine CC1.out.mono ?_; rintro en w19 ⟨rfl, hb19⟩))
      go_meet
      exact ⟨rfl, hid hb19⟩
  case rest =>
  obtain ⟨rfl, HX20⟩ := hcut
  generalize wc = w20 at *
  generalize (decide (k1 ≤ 0) && (decide ((k.length : Int) = 0) || decide (k2 < 0))) = bb at *
  have HCw20 := hid (below_step HCw18.out HX20.out)
  have HX16 := hid (below_step HX18.out HX20.out)
  have HVA20 := hid (HVA18.out.old HX20.out)
  have HKP : Hid (∀ V, Below w20.heap.size w20 V → V.cell? ⟨w15.heap.size, 0, none⟩ = some (.slice sa LO.length sc) ∧ V.cell? ⟨w15.heap.size, 1, none⟩ = some (.slice ta HI.length tc)) := hid (fun V hV => by
    have h := ((below_step HX16.out hV).block _ (lt_of_block HZP.out)).trans HZP.out
    exact ⟨cell_in h 0 _ rfl, cell_in h 1 _ rfl⟩)
  clear CC1 CC2
  go_upto_region 21 with fail
  refine wp_region_noPanic ?_
  refine wp_region_held_drew (S := fun V => Hid (Below w20.heap.size w20 V)) (by kernel_rfl) (hid (Below.drew (Below.refl _ _))) (fun hHeld => ?_)
  generalize w20.drew = Wd at *
  refine tkH 0 (.int .i64 0) rfl (by kernel_rfl) (fun _ _ _ => False.elim) hHeld (Or.inl ⟨by rfl, fun W9 hW => by clear hHeld hW; simp only [jA, jB, jC]; go_simp⟩) ?_
  simp only [Act.put, jA, jB, jC, jD, jE, jF]
  refine tkH 1 (.bool true) rfl (by kernel_rfl) (fun _ _ _ => False.elim) hHeld (Or.inl ⟨by rfl, fun W9 hW => by clear hHeld hW; simp only [jA, jB, jC]; go_simp⟩) ?_
  simp only [Act.put, jA, jB, jC, jD, jE, jF]
  refine tkH 2 (.bool true) rfl (by kernel_rfl) (fun _ _ _ => False.elim) hHeld (Or.inl ⟨by rfl, fun W9 hW => by clear hHeld hW; simp only [jA, jB, jC]; go_simp⟩) ?_
  simp only [Act.put, jA, jB, jC, jD, jE, jF]
  refine tkH 3 (.int .i64 0) rfl (by kernel_rfl) (fun _ _ _ => False.elim) hHeld (Or.inl ⟨by rfl, fun W9 hW => by clear hHeld hW; simp only [jA, jB, jC]; go_simp⟩) ?_
  simp only [Act.put, jA, jB, jC, jD, jE, jF]
  refine tkH 4 (.bool true) rfl (by kernel_rfl) (fun _ _ _ => False.elim) hHeld (Or.inl ⟨by rfl, fun W9 hW => by clear hHeld hW; simp only [jA, jB, jC]; go_simp⟩) ?_
  simp only [Act.put, jA, jB, jC, jD, jE, jF]
  refine tkH 5 (.bool true) rfl (by kernel_rfl) (fun _ _ _ => False.elim) hHeld (Or.inl ⟨by rfl, fun W9 hW => by clear hHeld hW; simp only [jA, jB, jC]; go_simp⟩) ?_
  simp only [Act.put, jA, jB, jC, jD, jE, jF]
  refine tkH 6 (.bool true) rfl (by kernel_rfl) (fun _ _ _ => False.elim) hHeld (Or.inl ⟨by rfl, fun W9 hW => by clear hHeld hW; simp only [jA, jB, jC]; go_simp⟩) ?_
  simp only [Act.put, jA, jB, jC, jD, jE, jF]
  refine tkH 7 (.agg #[.slice sa LO.length sc, .slice ta HI.length tc]) rfl (by kernel_rfl) (fun _ _ _ => False.elim) hHeld (Or.inl ⟨by rfl, fun W9 hW => by obtain ⟨q0, q1⟩ := HKP.out _ hW.out; clear hHeld hW; simp only [jA, jB, jC]; go_simp⟩) ?_
  simp only [Act.put, jA, jB, jC, jD, jE, jF]
  refine tkH 8 (.agg #[.int .i64 T.id, .string ⟨T.name.toArray⟩, .slice a1 T.cols.length e1, .slice a3 T.key.length e3]) rfl (by kernel_rfl) (fun _ _ _ => False.elim) hHeld (Or.inl ⟨by rfl, fun W9 hW => by obtain ⟨q0, q1, q2, q3, q4, q5, q6, q7, q8, q9, q10⟩ := HKT.out _ (below_step HCw20.out hW.out); clear hHeld hW; simp only [jA, jB, jC]; go_simp⟩) ?_
  simp only [Act.put, jA, jB, jC, jD, jE, jF]
  refine tkH 9 (.slice ka T.key.length kc) rfl (by kernel_rfl) (fun _ _ _ => False.elim) hHeld (Or.inl ⟨by rfl, fun W9 hW => by clear hHeld hW; simp only [jA, jB, jC]; go_simp⟩) ?_
  simp only [Act.put, jA, jB, jC, jD, jE, jF]
  refine tkH 12 (.bool bb) rfl (by kernel_rfl) (fun _ _ _ => False.elim) hHeld (Or.inl ⟨by rfl, fun W9 hW => by clear hHeld hW; simp only [jA, jB, jC]; go_simp⟩) ?_
  simp only [Act.put, jA, jB, jC, jD, jE, jF]
  refine rdH 10 (by kernel_rfl) rfl fun K hK => ?_
  rw [if_pos (by rfl)]
  go_simp
  have CQ := hid (name_ok (HT2.out.old (below_step HCw20.out hHeld.out)) HTI.out.tid HTI.out.key (by have := HTI.out.keyl; omega) (HVA20.out.old hHeld.out) HOA.out.inn HKA.out)
  go_wp2_with (first | (go_at_call 10; refine CQ.out.mono ?_; rintro en wG ⟨v2, rfl, hoE, hbE⟩; have HBE := hid (below_step hHeld.out hbE); obtain ⟨na, nc, rfl, hrE⟩ := zown_rd hoE; have HRN1 := hid hrE; have HRL3 := hid (HRL2.out.old (below_step HX16.out (below_step hHeld.out hbE))); have HRH3 := hid (HRH2.out.old (below_step HX16.out (below_step hHeld.out hbE))); clear hoE hrE hbE; have HCwG := hid (below_step HCw20.out HBE.out)))
  clear CQ hHeld
  refine hK.out _ _ HBE (fun hHeld => ?_)
  clear hK K
  try simp only [Act.put, jA, jB, jC, jD, jE, jF]
  refine wpAnyH_low (S' := fun V => Hid (Below wG.heap.size wG V)) (fun V hV => hid (below_step HBE.out hV.out)) _ _ _ _ ?_
  clear hHeld HBE
  have hHeld : Hid (Below wG.heap.size wG wG) := hid (Below.refl _ _)
  refine rdH 11 (by kernel_rfl) rfl fun K hK => ?_
  rw [if_pos (by rfl)]
  go_simp
  have CQ := hid (within_eq (HRL3.out.old hHeld.out) (HRH3.out.old hHeld.out) (HRN1.out.old hHeld.out) HSN.out)
  go_wp2_with (first | (go_at_call 20; refine CQ.out.mono ?_; rintro en wH ⟨rfl, hbE⟩; have HBE := hid (below_step hHeld.out hbE); clear hbE; have HCwH := hid (below_step HCwG.out HBE.out)))
  clear CQ hHeld
  refine hK.out _ _ HBE (fun hHeld => ?_)
  clear hK K
  try simp only [Act.put, jA, jB, jC, jD, jE, jF]
  refine wpAnyH_low (S' := fun V => Hid (Below wH.heap.size wH V)) (fun V hV => hid (below_step HBE.out hV.out)) _ _ _ _ ?_
  clear hHeld HBE
  have hHeld : Hid (Below wH.heap.size wH wH) := hid (Below.refl _ _)
  refine tkH 13 (.bool true) rfl (by kernel_rfl) (fun _ _ _ => False.elim) hHeld (Or.inl ⟨by rfl, fun W9 hW => by clear hHeld hW; simp only [jA, jB, jC]; go_simp⟩) ?_
  simp only [Act.put, jA, jB, jC, jD, jE, jF]
  refine tkH 14 (.bool true) rfl (by kernel_rfl) (fun _ _ _ => False.elim) hHeld (Or.inl ⟨by rfl, fun W9 hW => by clear hHeld hW; simp only [jA, jB, jC]; go_simp⟩) ?_
  simp only [Act.put, jA, jB, jC, jD, jE, jF]
  refine tkH 15 (.bool true) rfl (by kernel_rfl) (fun _ _ _ => False.elim) hHeld (Or.inl ⟨by rfl, fun W9 hW => by clear hHeld hW; simp only [jA, jB, jC]; go_simp⟩) ?_
  simp only [Act.put, jA, jB, jC, jD, jE, jF]
  refine wpAnyH_done (by kernel_rfl) (NoPanic.normal ?_) _
  clear hHeld
  go_wp2_with fail
  go_ret
  exact ⟨rfl, below_step HB.out HCwH.out⟩

theorem walk {H : Type} {enc : TypeId × Value → H} {base : Nat} {d0 d1 d2 d3 d4 d5 : DataW H} {p0 p1 p2 p3 p4 p5 : List MemPlace} (v0 v1 v2 v3 v4 v5 : Value) (W : World) (hg : Ready W)
    (hw0 : Value.okWide Tryd.prog W .any base 25 v0) (h0 : DataW.Trod enc Tryd.prog W 0 (fun _ => true) true 25 v0 d0 p0) (hk0 : ∀ n ∈ d0.weights Tryd.prog 25, n ≤ reachBytes)
    (hw1 : Value.okWide Tryd.prog W .any base 27 v1) (h1 : DataW.Trod enc Tryd.prog W 0 (fun _ => true) true 27 v1 d1 p1) (hk1 : ∀ n ∈ d1.weights Tryd.prog 27, n ≤ reachBytes)
    (hw2 : Value.okWide Tryd.prog W .any base 28 v2) (h2 : DataW.Trod enc Tryd.prog W 0 (fun _ => true) true 28 v2 d2 p2) (hk2 : ∀ n ∈ d2.weights Tryd.prog 28, n ≤ reachBytes)
    (hw3 : Value.okWide Tryd.prog W .any base 28 v3) (h3 : DataW.Trod enc Tryd.prog W 0 (fun _ => true) true 28 v3 d3 p3) (hk3 : ∀ n ∈ d3.weights Tryd.prog 28, n ≤ reachBytes)
    (hw4 : Value.okWide Tryd.prog W .any base 28 v4) (h4 : DataW.Trod enc Tryd.prog W 0 (fun _ => true) true 28 v4 d4 p4) (hk4 : ∀ n ∈ d4.weights Tryd.prog 28, n ≤ reachBytes)
    (hw5 : Value.okWide Tryd.prog W .any base 28 v5) (h5 : DataW.Trod enc Tryd.prog W 0 (fun _ => true) true 28 v5 d5 p5) (hk5 : ∀ n ∈ d5.weights Tryd.prog 28, n ≤ reachBytes) :
    Calls Tryd.prog 4 #[v0, v1, v2, v3, v4, v5] W (fun e w' => e = .returned (.bool true) ∧ Below W.heap.size W w') := by
  obtain ⟨cs, T, rfl, hT, hTW⟩ := table_open hw0 h0
  obtain ⟨ds, X, rfl, hX, hXW⟩ := index_open hw1 h1
  obtain ⟨a2, l2, c2, rfl⟩ := WideShapes.okWide_slice Tryd.underlying28 hw2
  obtain ⟨r, -, hr, hri⟩ := vals_open h2
  obtain ⟨a3, l3, c3, rfl⟩ := WideShapes.okWide_slice Tryd.underlying28 hw3
  obtain ⟨s, -, hs, hsi⟩ := vals_open h3
  obtain ⟨a4, l4, c4, rfl⟩ := WideShapes.okWide_slice Tryd.underlying28 hw4
  obtain ⟨l, -, hl, hli⟩ := vals_open h4
  obtain ⟨a5, l5, c5, rfl⟩ := WideShapes.okWide_slice Tryd.underlying28 hw5
  obtain ⟨k, -, hk, hki⟩ := vals_open h5
  exact walk0 W hg hT (hTW hk0) hX (hXW hk1) hr hri hs hsi hl hli hk hki
end Go.Proofs.YtpdmocdfnakggaaDoor.rowsOrder

set_option linter.unusedVariables false
set_option maxRecDepth 100000
namespace Go.Proofs.YtpdmocdfnakggaaDoor
open Go.ChangeShapes Go.WideShapes Go.ChangeAt Go.RowKit

theorem own : ownKnob Tryd.prog.godebug = none := by kernel_rfl
theorem laidOut : laidOutB Tryd.prog = true := by kernel_rfl
theorem etNamed : Tryd.prog.globalNamed "errors.errorType" = some 0 := by kernel_rfl
theorem rtNamed : (Tryd.prog.cutTypes.find? (·.1 == "internal/reflectlite.rtype")).map (·.2) = some 141 := by kernel_rfl
theorem oneRow : ((List.range (295 - 100)).filter fun t => Tryd.prog.rowNamed t [101, 114, 114, 111, 114]) = [66] := by kernel_rfl
theorem typesSize : Tryd.prog.types.size = 295 - 100 := by kernel_rfl

/-- WHAT THE CONDITION GIVES: the variable's one cell. -/
theorem ready_of_laid {W : World} (h : laidMetH Tryd.prog [("errors.errorType", Rows.laid_errors_errorType)] W) : Ready W := by
  have h' : laidMet Tryd.prog [] W ∧ handlesMet Tryd.prog [("errors.errorType", Rows.laid_errors_errorType)] W := h
  obtain ⟨name, u, ty, e1, e2, e3, e4, e5⟩ := h'.2 _ (List.mem_singleton.2 rfl)
  have en : name = [101, 114, 114, 111, 114] := (Option.some.inj e1).symm
  subst en
  obtain rfl := Option.some.inj (rtNamed.symm.trans e2)
  have hm : ty ∈ (List.range (295 - 100)).filter fun t => Tryd.prog.rowNamed t [101, 114, 114, 111, 114] := List.mem_filter.2 ⟨List.mem_range.2 (by rw [← typesSize]; exact e3), e4⟩
  rw [oneRow] at hm
  obtain rfl := List.mem_singleton.1 hm
  have hh : typeHandle Tryd.prog 66 = .pointer (some ⟨1, 66, none⟩) := by kernel_rfl
  rw [hh] at e5
  simpa [Ready] using World.var?_cell etNamed e5 0

/-- A world that meets the condition. -/
noncomputable def laidWorld (os : Os) : World :=
  let w0 := World.holding Tryd.prog os ⟨#[], #[], []⟩
  { w0 with heap := w0.heap.modify 0 fun
      | .cells _ t frozen => .cells #[.iface 141 (.agg #[.pointer (some ⟨1, 66, none⟩)])] t frozen
      | o => o }
theorem laid_met (os : Os) (args : Array Value) : laidMetH Tryd.prog [("errors.errorType", Rows.laid_errors_errorType)] ((laidWorld os).forCall (fun _ _ => 0) ⟨#[], args, []⟩).memory :=
  laidMetH_of_parts (laidMet_nil _ _) (by kernel_rfl)
end Go.Proofs.YtpdmocdfnakggaaDoor

namespace Go.Proofs.YtpdmocdfnakggaaDoor.rowsOrder
open Go.ChangeShapes Go.WideShapes Go.ChangeAt Go.RowKit
open Go.ChangeMaps (open_string shut_string)
set_option linter.unusedVariables false

set_option maxRecDepth 100000 in
theorem contract (H : Type) (enc : TypeId × Value → H) (W : World) (base : Nat) (args : Array Value) (ds gs : List (DataW H)) (before : List MemPlace)
    (hval : ∀ (j : Nat) t v, Tryd.f4.params[j]? = some t → args[j]? = some v → Value.okWide Tryd.prog W .any base t v)
    (hW : DataW.Whole enc Tryd.prog Tryd.f4.params.toList Rows.rowsOrderSpec.vars false W args.toList ds gs before) (hsz0 : (DataW.weightsEach Tryd.prog (Tryd.f4.params.toList ++ (OpenSpec.ofChange Rows.rowsOrderSpec).bare.plain.varTypes Tryd.prog) (ds ++ gs)).all (· ≤ reachBytes) = true) (hL : laidMetH Tryd.prog Rows.rowsOrderRow.laid W) :
    Calls Tryd.prog 4 args W fun e W' => ∃ v, e = .returned v ∧ Rows.rowsOrderSpec.post enc Tryd.prog Tryd.f4 false true false false W args v W' := by
  have hW' := hW
  obtain ⟨p, q, hA0, hV, rfl, hfz, hnd⟩ := hW
  have hA : DataW.TrodAll enc Tryd.prog W 0 (fun _ => true) true Tryd.f4.params.toList args.toList ds p := hA0
  rw [Tryd.params4] at hA hval
  have hsz := hsz0
  rw [Tryd.params4] at hsz
  obtain ⟨v0, vs0, d0, ds0, p0, q0, hargs, rfl, rfl, h0, r0⟩ := trodAll_cons hA
  obtain ⟨v1, vs1, d1, ds1, p1, q1, rfl, rfl, rfl, h1, r1⟩ := trodAll_cons r0
  obtain ⟨v2, vs2, d2, ds2, p2, q2, rfl, rfl, rfl, h2, r2⟩ := trodAll_cons r1
  obtain ⟨v3, vs3, d3, ds3, p3, q3, rfl, rfl, rfl, h3, r3⟩ := trodAll_cons r2
  obtain ⟨v4, vs4, d4, ds4, p4, q4, rfl, rfl, rfl, h4, r4⟩ := trodAll_cons r3
  obtain ⟨v5, vs5, d5, ds5, p5, q5, rfl, rfl, rfl, h5, r5⟩ := trodAll_cons r4
  obtain ⟨rfl, rfl, rfl⟩ := trodAll_nil r5
  obtain rfl : args = #[v0, v1, v2, v3, v4, v5] := by cases args; simp_all
  obtain ⟨rfl, rfl⟩ := trodVars_none hV
  have k0 := h0
  have lt0 : ∀ x ∈ p0, x.block < W.heap.size := by obtain ⟨m, hm⟩ := k0; exact DataW.trod_lt m _ _ _ hm
  have k1 := h1
  have lt1 : ∀ x ∈ p1, x.block < W.heap.size := by obtain ⟨m, hm⟩ := k1; exact DataW.trod_lt m _ _ _ hm
  have k2 := h2
  have lt2 : ∀ x ∈ p2, x.block < W.heap.size := by obtain ⟨m, hm⟩ := k2; exact DataW.trod_lt m _ _ _ hm
  have k3 := h3
  have lt3 : ∀ x ∈ p3, x.block < W.heap.size := by obtain ⟨m, hm⟩ := k3; exact DataW.trod_lt m _ _ _ hm
  have k4 := h4
  have lt4 : ∀ x ∈ p4, x.block < W.heap.size := by obtain ⟨m, hm⟩ := k4; exact DataW.trod_lt m _ _ _ hm
  have k5 := h5
  have lt5 : ∀ x ∈ p5, x.block < W.heap.size := by obtain ⟨m, hm⟩ := k5; exact DataW.trod_lt m _ _ _ hm
  clear hA0
  refine (walk v0 v1 v2 v3 v4 v5 W (ready_of_laid hL) (hval 0 25 v0 rfl rfl) h0 (fun n hn => of_decide_eq_true (List.all_eq_true.1 hsz n (DataW.weights_mem_each (j := 0) rfl rfl n hn))) (hval 1 27 v1 rfl rfl) h1 (fun n hn => of_decide_eq_true (List.all_eq_true.1 hsz n (DataW.weights_mem_each (j := 1) rfl rfl n hn))) (hval 2 28 v2 rfl rfl) h2 (fun n hn => of_decide_eq_true (List.all_eq_true.1 hsz n (DataW.weights_mem_each (j := 2) rfl rfl n hn))) (hval 3 28 v3 rfl rfl) h3 (fun n hn => of_decide_eq_true (List.all_eq_true.1 hsz n (DataW.weights_mem_each (j := 3) rfl rfl n hn))) (hval 4 28 v4 rfl rfl) h4 (fun n hn => of_decide_eq_true (List.all_eq_true.1 hsz n (DataW.weights_mem_each (j := 4) rfl rfl n hn))) (hval 5 28 v5 rfl rfl) h5 (fun n hn => of_decide_eq_true (List.all_eq_true.1 hsz n (DataW.weights_mem_each (j := 5) rfl rfl n hn)))).mono fun e W' ⟨he, bel⟩ => ?_
  subst he
  exact ⟨_, rfl, _, _, _, [], _, [], hW', trodAll_mk1 (shut_bool Tryd.underlying4 _), (trodAll_cons_mk (Below.trod laidOut (by kernel_rfl) (of_decide_eq_true (by kernel_rfl)) k0 bel lt0) (trodAll_cons_mk (Below.trod laidOut (by kernel_rfl) (of_decide_eq_true (by kernel_rfl)) k1 bel lt1) (trodAll_cons_mk (Below.trod laidOut (by kernel_rfl) (of_decide_eq_true (by kernel_rfl)) k2 bel lt2) (trodAll_cons_mk (Below.trod laidOut (by kernel_rfl) (of_decide_eq_true (by kernel_rfl)) k3 bel lt3) (trodAll_cons_mk (Below.trod laidOut (by kernel_rfl) (of_decide_eq_true (by kernel_rfl)) k4 bel lt4) (trodAll_cons_mk (Below.trod laidOut (by kernel_rfl) (of_decide_eq_true (by kernel_rfl)) k5 bel lt5) trodAll_mk0)))))), rfl, bel.frame _, fun h => by cases h⟩

theorem reads (os : Os) {H : Type} (enc : TypeId × Value → H) : ∃ places, DataW.whole enc Tryd.prog ((laidWorld os).forCall (fun _ _ => 0) ⟨#[], #[.agg #[.int .i64 0, .string .empty, .slice none 0 0, .slice none 0 0], .agg #[.int .i64 0, .int .i64 0, .string .empty, .slice none 0 0, .bool false, .int .i64 0, .bool false], .slice none 0 0, .slice none 0 0, .slice none 0 0, .slice none 0 0], []⟩).memory Tryd.f4.params.toList Rows.rowsOrderSpec.vars false (#[.agg #[.int .i64 0, .string .empty, .slice none 0 0, .slice none 0 0], .agg #[.int .i64 0, .int .i64 0, .string .empty, .slice none 0 0, .bool false, .int .i64 0, .bool false], .slice none 0 0, .slice none 0 0, .slice none 0 0, .slice none 0 0] : Array Value).toList 8 = some ([.agg [.lit (.int .i64 0), .lit (.string []), .nil, .nil], .agg [.lit (.int .i64 0), .lit (.int .i64 0), .lit (.string []), .nil, .lit (.bool false), .lit (.int .i64 0), .lit (.bool false)], .nil, .nil, .nil, .nil], [], places) :=
  ⟨[], by kernel_rfl⟩

set_option maxRecDepth 100000 in
theorem lifted (os : Os) (started : os.Started) (H : Type) (enc : TypeId × Value → H) (F : Stop.Interp) :
    ReturnsInHanded {} Tryd.checked os 4 .any ((OpenSpec.ofChange Rows.rowsOrderSpec).preRow enc Tryd.prog Tryd.f4 Rows.rowsOrderRow.domain false Rows.rowsOrderRow.laid) (((OpenSpec.ofChange Rows.rowsOrderSpec).at F).post enc Tryd.prog Tryd.f4 false true false false) := by
  obtain ⟨places, hx⟩ := reads os enc
  refine returnsInHanded_of_row (C := Tryd.checked) (s := (OpenSpec.ofChange Rows.rowsOrderSpec)) own started (by kernel_rfl) Tryd.func4
    (witness_row_at (enc := enc) (C := Tryd.checked) false (laidWorld os) #[.agg #[.int .i64 0, .string .empty, .slice none 0 0, .slice none 0 0], .agg #[.int .i64 0, .int .i64 0, .string .empty, .slice none 0 0, .bool false, .int .i64 0, .bool false], .slice none 0 0, .slice none 0 0, .slice none 0 0, .slice none 0 0] rfl (by kernel_rfl) (by kernel_rfl) (by kernel_rfl)
      (OpenSpec.preRow_of_cond 8 hx (by kernel_rfl) (fun k hk => by cases hk) (by kernel_rfl) (laid_met os _))) ?_
  intro W base args ds gs before hval hW _ _ hsz hL _ _
  exact contract H enc W base args ds gs before hval hW hsz hL

theorem said : Rows.RowsOrderSaid :=
  OpenClaim.holds_of_cond 4 Tryd.f4 rfl rfl rfl rfl rfl rfl rfl ⟨rfl, rfl, rfl, rfl, rfl⟩ rfl rfl rfl rfl rfl (by kernel_rfl) Tryd.func4 (by kernel_rfl)
    (of_decide_eq_true (by kernel_rfl)) (by unfold Func.isWrapper; first | (rw [if_pos (by decide +kernel)]; kernel_rfl) | (rw [if_neg (by decide +kernel)]; exact ⟨rfl, rfl⟩))
    (fun os started H enc _ F => by rw [OpenClaim.pre_eq_preRow]; exact lifted os started H enc F)

theorem plain (f : FuncId) (fn : Func) (hf : Tryd.pinned.checked.prog.funcNamed "armoire/armoirelaw13.RowsOrder" = some f) (hfn : Tryd.pinned.checked.prog.funcs[f]? = some fn) :
    true = Tryd.pinned.checked.prog.looks [] ∧ ∀ (j : Nat) t, fn.params[j]? = some t → Tryd.pinned.checked.prog.wantsStandIn t = false := by
  obtain rfl : f = 4 := Option.some.inj ((show Tryd.prog.funcNamed "armoire/armoirelaw13.RowsOrder" = some 4 by kernel_rfl).symm.trans hf) |>.symm
  obtain rfl : fn = Tryd.f4 := (Option.some.inj (Tryd.func4.symm.trans hfn)).symm
  refine ⟨by kernel_rfl, fun j t ht => ?_⟩
  rw [Tryd.params4] at ht
  have hm := Array.mem_of_getElem? ht
  simp only [List.mem_toArray, List.mem_cons, List.not_mem_nil, or_false] at hm
  rcases hm with rfl | rfl | rfl | rfl | rfl | rfl
  · exact (show Tryd.prog.wantsStandIn 25 = false by kernel_rfl)
  · exact (show Tryd.prog.wantsStandIn 27 = false by kernel_rfl)
  · exact (show Tryd.prog.wantsStandIn 28 = false by kernel_rfl)
  · exact (show Tryd.prog.wantsStandIn 28 = false by kernel_rfl)
  · exact (show Tryd.prog.wantsStandIn 28 = false by kernel_rfl)
  · exact (show Tryd.prog.wantsStandIn 28 = false by kernel_rfl)

/-- THE CARD. -/
theorem proved : Rows.RowsOrderCardSaid :=
  Claim7.holds_tied_plain_at .later [] _ _ _ _ said (fun _ h => by cases h) (by kernel_rfl) (fun _ h => by cases h) rowsOrder_row_tie rfl ⟨rfl, rfl⟩ (by kernel_rfl) rfl plain (by kernel_rfl)
end Go.Proofs.YtpdmocdfnakggaaDoor.rowsOrder

