import Derived.Test.YtpdmocdfnakggaaDoorRows
import Derived.WalkKit
import Derived.WalkSpells
import Derived.WalkLawsBesides
import Derived.Laws.AppendOwnNone
import Derived.Test.YtpdmocdfnakggaaDoorProg
import Derived.LaidEql
import Derived.Stop.Asserts
import Derived.RowKitTokens
import Derived.ProofKit
import Derived.OpenShut
import Derived.ShutString
import Derived.ChangeOld
import Derived.Below
import Derived.SizedLaws
import Derived.Deep.Slices
import Derived.Deep.AppendLies
import Derived.BigQuiet
import Derived.Deep.QuietTactic
import Derived.Deep.CutRange
import Derived.Deep.RegionWith
import Derived.Deep.RegionHeld3
import Derived.Lib.Bytealg
import Derived.Deep.Strs
import GoSem.Op.String
import Derived.Deep.RegionHeld
import Derived.Lib.Bytes
import Derived.Deep.OwnRows
import Derived.OwnWalk
import Derived.Lib.AppendZeros
import Derived.Deep.RegionLaw
import Derived.Laws.OwnMore
import Derived.Test.YtpdmocdfnakggaaDoorZB1
import Derived.Test.YtpdmocdfnakggaaDoorZB2
set_option linter.unusedVariables false
set_option linter.unusedSimpArgs false
set_option linter.unusedVariables false
set_option linter.unusedSimpArgs false
set_option maxRecDepth 100000
namespace Go.Proofs.YtpdmocdfnakggaaDoor
open Go.RowKit Go.Deep

theorem pickL_app (r : List Vl) (A B : List Int) : pickL r (A ++ B) = pickL r A ++ pickL r B := by unfold pickL; rw [List.map_append]
def backR (T : Tab) (X : Idx) (r : List Vl) : List Vl := rowMix (zeroR T) r (X.cols ++ T.key)
theorem zeroR_len (T : Tab) : (zeroR T).length = T.cols.length := by unfold zeroR; rw [List.length_map]
theorem mix_at {Z r : List Vl} {L : List Int} {j : Nat} (hj : j < Z.length) : (rowMix Z r L)[j]? = some (if L.contains ((j : Nat) : Int) then r.getD j ⟨0, 0, []⟩ else Z.getD j ⟨0, 0, []⟩) := by
  unfold rowMix
  rw [List.getElem?_map, List.getElem?_range hj]; rfl
theorem back_ok {T : Tab} {X : Idx} {r : List Vl} (hr : RwOk T r) (hk : ∀ c ∈ T.cols, c.kind = 1 ∨ c.kind = 2) : RwOk T (backR T X r) := by
  have hlen : (backR T X r).length = T.cols.length := by unfold backR; rw [rowMix_len, zeroR_len]
  have key : ∀ (i : Nat) c v, T.cols[i]? = some c → (backR T X r)[i]? = some v → mayV c v ∧ inV v := fun i c v hc hv => by
    have hi : i < T.cols.length := (List.getElem?_eq_some_iff.1 hc).1
    unfold backR at hv
    rw [mix_at (by rw [zeroR_len]; exact hi)] at hv
    have hir : i < r.length := by rw [hr.ok.1]; exact hi
    split at hv
    · rw [List.getD_eq_getElem?_getD, List.getElem?_eq_getElem hir] at hv
      cases hv
      exact ⟨hr.ok.2 i c _ hc (List.getElem?_eq_getElem hir), hr.inn _ (List.getElem_mem hir)⟩
    · have h0 : (zeroR T)[i]? = some ⟨c.kind, 0, []⟩ := by unfold zeroR; rw [List.getElem?_map, hc]; rfl
      rw [List.getD_eq_getElem?_getD, h0] at hv
      cases hv
      refine ⟨⟨?_, Or.inl rfl⟩, (show (-9223372036854775808 : Int) ≤ 0 ∧ (0 : Int) ≤ 9223372036854775807 by omega)⟩
      rcases hk c (List.mem_of_getElem? hc) with h | h
      · exact Or.inr (Or.inl ⟨h, rfl⟩)
      · exact Or.inr (Or.inr ⟨h, rfl, by simp⟩)
  refine ⟨⟨hlen, fun i c v hc hv => (key i c v hc hv).1⟩, fun v hv => ?_⟩
  obtain ⟨i, hi⟩ := List.getElem?_of_mem hv
  have h3 := (List.getElem?_eq_some_iff.1 hi).1
  exact (key i _ v (List.getElem?_eq_getElem (by rw [← hlen]; exact h3)) hi).2
theorem back_pick {T : Tab} {X : Idx} {r : List Vl} {L : List Int} (hL : PlOk L T.cols.length) (hs : ∀ z ∈ L, z ∈ X.cols ++ T.key) : pickL (backR T X r) L = pickL r L := by
  unfold pickL
  refine List.map_congr_left (fun z hz => ?_)
  obtain ⟨h1, h2⟩ := hL z hz
  have hz2 : ((z.toNat : Nat) : Int) = z := by omega
  have hm : (X.cols ++ T.key).contains ((z.toNat : Nat) : Int) = true := by rw [hz2]; simpa using hs z hz
  rw [List.getD_eq_getElem?_getD]
  unfold backR
  rw [mix_at (by rw [zeroR_len]; omega), if_pos hm]
  rfl
theorem back_key {T : Tab} {X : Idx} {r : List Vl} (ht : TiOk T X) : pickL (backR T X r) T.key = pickL r T.key := back_pick ht.key (fun z hz => List.mem_append_right _ hz)
theorem back_cols {T : Tab} {X : Idx} {r : List Vl} (ht : TiOk T X) : pickL (backR T X r) X.cols = pickL r X.cols := back_pick ht.cols (fun z hz => List.mem_append_left _ hz)
theorem back_full {T : Tab} {X : Idx} {r : List Vl} (ht : TiOk T X) : fullB X (backR T X r) = fullB X r := by unfold fullB; rw [back_cols ht]
theorem back_entKey {T : Tab} {X : Idx} {r : List Vl} (ht : TiOk T X) : entKey T X (backR T X r) = entKey T X r := by unfold entKey entVals; rw [back_full ht, back_cols ht, back_key ht]
theorem back_entVal {T : Tab} {X : Idx} {r : List Vl} (ht : TiOk T X) : entVal T X (backR T X r) = entVal T X r := by unfold entVal; rw [back_full ht, back_key ht]
theorem may_kinds {T : Tab} {X : Idx} (h : mayF T X = true) : (∀ c ∈ T.cols, c.kind = 1 ∨ c.kind = 2) ∧ 1 ≤ T.cols.length ∧ T.cols.length ≤ 6 := by
  unfold mayF at h
  rw [Bool.and_eq_true] at h
  have h := h.2
  unfold catB mayC at h
  simp only [Bool.and_eq_true] at h
  obtain ⟨⟨-, ht⟩, -⟩ := h
  unfold tabsB at ht
  simp only [Bool.and_eq_true] at ht
  obtain ⟨ht, -⟩ := ht
  unfold tabNew at ht
  simp only [Bool.and_eq_true] at ht
  have htb := ht.1.2
  unfold tabB at htb
  simp only [Bool.and_eq_true, decide_eq_true_eq] at htb
  refine ⟨?_, htb.1.1.1.1.2, htb.1.1.1.2⟩
  have hc := htb.1.2
  have go : ∀ (l p : List Col), colsB p l = true → ∀ c ∈ l, c.kind = 1 ∨ c.kind = 2 := by
    intro l
    induction l with
    | nil => intro p _ c hc; cases hc
    | cons a l ih =>
      intro p h c hc
      unfold colsB at h
      simp only [Bool.and_eq_true] at h
      rcases List.mem_cons.1 hc with rfl | hc
      · have h1 := h.1
        unfold colB at h1
        simp only [Bool.and_eq_true, Bool.or_eq_true, decide_eq_true_eq] at h1
        exact h1.1.2
      · exact ih _ h.2 c hc
  exact go _ _ hc
theorem nameL_pos (T : Tab) (k : List Vl) : ¬ ((nameL T k).length : Int) = 0 := by unfold nameL headB; simp; omega

set_option maxHeartbeats 8000000 in
theorem valuesOf_ok {N : Nat → Prop} {w : World} {cs ds : List Value} {T : Tab} {X : Idx} {r : List Vl} {k1 v1 : Option Addr} {k2 v2 : Nat} (h : TabN N w cs T) (h2 : IdxN N w ds X) (hti : TiOk T X) (hr : RwOk T r) (hpk : Rd w (.slice k1 (entKey T X r).length k2) (entKey T X r)) (hpv : Rd w (.slice v1 (entVal T X r).length v2) (entVal T X r)) :
    Calls Tryd.prog 48 #[.agg cs.toArray, .agg ds.toArray, .agg #[.slice k1 (entKey T X r).length k2, .slice v1 (entVal T X r).length v2, .int .i64 0]] w (fun e w' => ∃ v, e = .returned (.tuple #[v, .nilIface]) ∧ Vs w' v (pickL r (X.cols ++ T.key)) ∧ Below w.heap.size w w') := by
  obtain ⟨a1, e1, a3, e3, rfl⟩ := tab_form h
  have hX0 := h2
  obtain ⟨x6, rfl, ⟨hx6, -⟩, -⟩ := hX0
  obtain ⟨a4, e4, rfl, -, -, -⟩ := zs_cells hx6
  have H0 := hid h
  have H1 := hid h2
  have HPK0 := hid hpk
  have HPV0 := hid hpv
  have HT := hid hti
  have HR := hid hr
  clear h h2 hx6 hpk hpv hti hr
  go_enter Tryd.func48, Tryd.ntmps48
  go_upto_region 1 with fail
  have hb := (Below.refl w.heap.size w).alloc (Nat.le_refl _) (.cells #[.int .i64 T.id, .string ⟨T.name.toArray⟩, .slice a1 T.cols.length e1, .slice a3 T.key.length e3] 25)
  have hz := heap_alloc_new w (.cells #[.int .i64 T.id, .string ⟨T.name.toArray⟩, .slice a1 T.cols.length e1, .slice a3 T.key.length e3] 25)
  have hs : (w.alloc (.cells #[.int .i64 T.id, .string ⟨T.name.toArray⟩, .slice a1 T.cols.length e1, .slice a3 T.key.length e3] 25)).heap.size = w.heap.size + 1 := by simp
  generalize w.alloc (.cells #[.int .i64 T.id, .string ⟨T.name.toArray⟩, .slice a1 T.cols.length e1, .slice a3 T.key.length e3] 25) = w1 at *
  have hb2 := (Below.refl w1.heap.size w1).alloc (Nat.le_refl _) (.cells #[.int .i64 X.id, .int .i64 X.table, .string ⟨X.name.toArray⟩, .slice a4 X.cols.length e4, .bool X.uniq, .int .i64 X.state, .bool X.bad] 27)
  have hx2 := heap_alloc_new w1 (.cells #[.int .i64 X.id, .int .i64 X.table, .string ⟨X.name.toArray⟩, .slice a4 X.cols.length e4, .bool X.uniq, .int .i64 X.state, .bool X.bad] 27)
  have hs2 : (w1.alloc (.cells #[.int .i64 X.id, .int .i64 X.table, .string ⟨X.name.toArray⟩, .slice a4 X.cols.length e4, .bool X.uniq, .int .i64 X.state, .bool X.bad] 27)).heap.size = w1.heap.size + 1 := by simp
  generalize w1.alloc (.cells #[.int .i64 X.id, .int .i64 X.table, .string ⟨X.name.toArray⟩, .slice a4 X.cols.length e4, .bool X.uniq, .int .i64 X.state, .bool X.bad] 27) = w2 at *
  have hb3 := (Below.refl w2.heap.size w2).alloc (Nat.le_refl _) (.cells #[.slice k1 (entKey T X r).length k2, .slice v1 (entVal T X r).length v2, .int .i64 0] 34)
  have hp3 := heap_alloc_new w2 (.cells #[.slice k1 (entKey T X r).length k2, .slice v1 (entVal T X r).length v2, .int .i64 0] 34)
  generalize w2.alloc (.cells #[.slice k1 (entKey T X r).length k2, .slice v1 (entVal T X r).length v2, .int .i64 0] 34) = w3 at *
  have hz2 := (hb2.block _ (lt_of_block hz)).trans hz
  have hz3 := (hb3.block _ (lt_of_block hz2)).trans hz2
  rw [hs] at hx2 hs2
  have hx3 := (hb3.block _ (lt_of_block hx2)).trans hx2
  rw [hs2] at hp3
  have HB := hid (below_step (below_step hb hb2) hb3)
  have HKT : Hid (∀ V, Below w3.heap.size w3 V → V.cell? ⟨w.heap.size, 0, none⟩ = some (.int .i64 T.id) ∧ V.cell? ⟨w.heap.size, 1, none⟩ = some (.string ⟨T.name.toArray⟩) ∧ V.cell? ⟨w.heap.size, 2, none⟩ = some (.slice a1 T.cols.length e1) ∧ V.cell? ⟨w.heap.size, 3, none⟩ = some (.slice a3 T.key.length e3) ∧ V.cell? ⟨w.heap.size + 1, 0, none⟩ = some (.int .i64 X.id) ∧ V.cell? ⟨w.heap.size + 1, 1, none⟩ = some (.int .i64 X.table) ∧ V.cell? ⟨w.heap.size + 1, 2, none⟩ = some (.string ⟨X.name.toArray⟩) ∧ V.cell? ⟨w.heap.size + 1, 3, none⟩ = some (.slice a4 X.cols.length e4) ∧ V.cell? ⟨w.heap.size + 1, 4, none⟩ = some (.bool X.uniq) ∧ V.cell? ⟨w.heap.size + 1, 5, none⟩ = some (.int .i64 X.state) ∧ V.cell? ⟨w.heap.size + 1, 6, none⟩ = some (.bool X.bad) ∧ V.cell? ⟨w.heap.size + 2, 0, none⟩ = some (.slice k1 (entKey T X r).length k2) ∧ V.cell? ⟨w.heap.size + 2, 1, none⟩ = some (.slice v1 (entVal T X r).length v2) ∧ V.cell? ⟨w.heap.size + 2, 2, none⟩ = some (.int .i64 0)) := hid (fun V hV => by
    have h1 := (hV.block _ (lt_of_block hz3)).trans hz3
    have h2 := (hV.block _ (lt_of_block hx3)).trans hx3
    have h3 := (hV.block _ (lt_of_block hp3)).trans hp3
    exact ⟨cell_in h1 0 _ rfl, cell_in h1 1 _ rfl, cell_in h1 2 _ rfl, cell_in h1 3 _ rfl, cell_in h2 0 _ rfl, cell_in h2 1 _ rfl, cell_in h2 2 _ rfl, cell_in h2 3 _ rfl, cell_in h2 4 _ rfl, cell_in h2 5 _ rfl, cell_in h2 6 _ rfl, cell_in h3 0 _ rfl, cell_in h3 1 _ rfl, cell_in h3 2 _ rfl⟩)
  have HT3 := hid (H0.out.old HB.out)
  have HX3 := hid (H1.out.old HB.out)
  have HPK := hid (HPK0.out.old HB.out)
  have HPV := hid (HPV0.out.old HB.out)
  have HCw3 : Hid (Below w3.heap.size w3 w3) := hid (Below.refl _ _)
  clear hb hb2 hb3 hz hz2 hz3 hx2 hx3 hp3 hs hs2 H0 H1 HPK0 HPV0
  have HEV := hid (entVals_ok HT.out HR.out)
  have HEL : Hid ((entVals T X r).length ≤ 16) := hid (by rw [entVals_eq, List.length_append, pickL_len]; have h1 := HT.out.coll; have h2 := HT.out.keyl; unfold entMore; split <;> simp [pickL_len] <;> omega)
  have HOJ := hid (pick_okl HR.out HT.out.key)
  refine wp_region_noPanic ?_
  refine wp_region_held_drew (S := fun V => Hid (Below w3.heap.size w3 V)) (by kernel_rfl) (hid (Below.drew (Below.refl _ _))) (fun hHeld => ?_)
  generalize w3.drew = Wd at *
  refine tkH 0 (.pointer (some ⟨w.heap.size + 1, 0, none⟩)) rfl (by kernel_rfl) (fun _ _ _ => False.elim) hHeld (Or.inl ⟨by rfl, fun W9 hW => by clear hHeld hW; simp only [jA, jB, jC]; go_simp⟩) ?_
  simp only [Act.put, jA, jB, jC, jD, jE, jF]
  refine tkH 1 (.int .i64 X.id) rfl (by kernel_rfl) (fun _ _ _ => False.elim) hHeld (Or.inl ⟨by rfl, fun W9 hW => by obtain ⟨q0, q1, q2, q3, q4, q5, q6, q7, q8, q9, q10, q11, q12, q13⟩ := HKT.out _ (below_step HCw3.out hW.out); clear hHeld hW; simp only [jA, jB, jC]; go_simp⟩) ?_
  simp only [Act.put, jA, jB, jC, jD, jE, jF]
  refine tkH 3 (.pointer (some ⟨w.heap.size + 2, 0, none⟩)) rfl (by kernel_rfl) (fun _ _ _ => False.elim) hHeld (Or.inl ⟨by rfl, fun W9 hW => by clear hHeld hW; simp only [jA, jB, jC]; go_simp⟩) ?_
  simp only [Act.put, jA, jB, jC, jD, jE, jF]
  refine tkH 4 (.slice k1 (entKey T X r).length k2) rfl (by kernel_rfl) (fun _ _ _ => False.elim) hHeld (Or.inl ⟨by rfl, fun W9 hW => by obtain ⟨q0, q1, q2, q3, q4, q5, q6, q7, q8, q9, q10, q11, q12, q13⟩ := HKT.out _ (below_step HCw3.out hW.out); clear hHeld hW; simp only [jA, jB, jC]; go_simp⟩) ?_
  simp only [Act.put, jA, jB, jC, jD, jE, jF]
  refine rdH 2 (by kernel_rfl) rfl fun K hK => ?_
  go_simp
  have CQ := hid (head_any Wd 120 X.id (by decide) (by decide) HT.out.xid)
  go_wp2_with (first | (go_at_call 34; refine CQ.out.mono ?_; rintro en w4 ⟨v4, rfl, hoE, hbE⟩; have HBE := hid (below_step hHeld.out hbE); have HO4 := hid hoE; clear hoE hbE; have HCw4 := hid (below_step HCw3.out HBE.out)))
  clear CQ hHeld
  refine hK.out _ _ HBE (fun hHeld => ?_)
  clear hK K
  try simp only [Act.put, jA, jB, jC, jD, jE, jF]
  refine wpAnyH_low (S' := fun V => Hid (Below w4.heap.size w4 V)) (fun V hV => hid (below_step HBE.out hV.out)) _ _ _ _ ?_
  clear hHeld HBE
  have hHeld : Hid (Below w4.heap.size w4 w4) := hid (Below.refl _ _)
  refine rdH 5 (by kernel_rfl) rfl fun K hK => ?_
  go_simp
  have CQ := hid (vbehind_ok (p := headB 120 X.id) (l := entVals T X r) ((Rd.own HO4.out).old hHeld.out) (HPK.out.old (below_step HCw4.out hHeld.out)) HEV.out HEL.out)
  go_wp2_with (first | (go_at_call 61; refine CQ.out.mono ?_; rintro en w5 ⟨v5, rfl, hoE, hbE⟩; have HBE := hid (below_step hHeld.out hbE); have HO5 := hid hoE; clear hoE hbE; have HCw5 := hid (below_step HCw4.out HBE.out)))
  clear CQ hHeld
  refine hK.out _ _ HBE (fun hHeld => ?_)
  clear hK K
  try simp only [Act.put, jA, jB, jC, jD, jE, jF]
  refine wpAnyH_low (S' := fun V => Hid (Below w5.heap.size w5 V)) (fun V hV => hid (below_step HBE.out hV.out)) _ _ _ _ ?_
  clear hHeld HBE
  have hHeld : Hid (Below w5.heap.size w5 w5) := hid (Below.refl _ _)
  refine tkH 6 (.tuple #[v5, .nilIface]) rfl (by kernel_rfl) (fun _ _ _ => False.elim) hHeld (Or.inl ⟨by rfl, fun W9 hW => by clear hHeld hW; simp only [jA, jB, jC]; go_simp⟩) ?_
  simp only [Act.put, jA, jB, jC, jD, jE, jF]
  refine tkH 7 (v5) rfl (by kernel_rfl) (fun _ _ _ => False.elim) hHeld (Or.inl ⟨by rfl, fun W9 hW => by clear hHeld hW; simp only [jA, jB, jC]; go_simp⟩) ?_
  simp only [Act.put, jA, jB, jC, jD, jE, jF]
  refine tkH 8 (.nilIface) rfl (by kernel_rfl) (fun _ _ _ => False.elim) hHeld (Or.inl ⟨by rfl, fun W9 hW => by clear hHeld hW; simp only [jA, jB, jC]; go_simp⟩) ?_
  simp only [Act.put, jA, jB, jC, jD, jE, jF]
  refine tkH 9 (v5) rfl (by kernel_rfl) (fun _ _ _ => False.elim) hHeld (Or.inl ⟨by rfl, fun W9 hW => by clear hHeld hW; simp only [jA, jB, jC]; go_simp⟩) ?_
  simp only [Act.put, jA, jB, jC, jD, jE, jF]
  refine tkH 10 (.nilIface) rfl (by kernel_rfl) (fun _ _ _ => False.elim) hHeld (Or.inl ⟨by rfl, fun W9 hW => by clear hHeld hW; simp only [jA, jB, jC]; go_simp⟩) ?_
  simp only [Act.put, jA, jB, jC, jD, jE, jF]
  refine wpAnyH_done (by kernel_rfl) (NoPanic.normal ?_) _
  clear hHeld
  have HV5 : Hid (Vs w5 v5 (entVals T X r)) := hid (Vs.own HO5.out)
  obtain ⟨a9, c9, rfl, -⟩ := HV5.out.form
  obtain ⟨q0, q1, q2, q3, q4, q5, q6, q7, q8, q9, q10, q11, q12, q13⟩ := HKT.out _ HCw5.out
  cases hf : fullB X r with
  | false =>
    have h0 : entVal T X r = [] := by unfold entVal; rw [hf]; rfl
    have h1 : entVals T X r = pickL r (X.cols ++ T.key) := by unfold entVals; rw [hf, pickL_app]; rfl
    rw [h0] at q12
    have q12 : w5.cell? ⟨w.heap.size + 2, 1, none⟩ = some (.slice v1 0 v2) := q12
    rw [h1] at HV5 ⊢
    clear h0 h1 HKT q0 q1 q2 q3 q4 q5 q6 q7 q8 q9 q10 q11 q13
    go_wp2_with fail
    go_ret2
    exact ⟨_, rfl, HV5.out, below_step HB.out HCw5.out⟩
  | true =>
  have h0 : entVal T X r = nameL T (pickL r T.key) := by unfold entVal; rw [hf]; rfl
  have h1 : entVals T X r = pickL r X.cols := by unfold entVals; rw [hf]; rfl
  have HPN := hid (show Rd w3 (.slice v1 (entVal T X r).length v2) (headB 114 T.id ++ encL (pickL r T.key)) from by have h := HPV.out; rw [h0] at h ⊢; exact h)
  have hne := nameL_pos T (pickL r T.key)
  rw [← h0] at hne
  have hnb : (((entVal T X r).length : Int) == 0) = false := by simpa using hne
  rw [h1] at HV5 ⊢
  clear h0 h1 hf
  go_upto_region 4 with fail
  clear q0 q1 q2 q3 q4 q5 q6 q7 q8 q9 q10 q11 q12 q13
  refine wp_region_noPanic ?_
  refine wp_region_held_drew (S := fun V => Hid (Below w5.heap.size w5 V)) (by kernel_rfl) (hid (Below.drew (Below.refl _ _))) (fun hHeld => ?_)
  generalize w5.drew = Wd at *
  refine tkH 0 (.pointer (some ⟨w.heap.size, 0, none⟩)) rfl (by kernel_rfl) (fun _ _ _ => False.elim) hHeld (Or.inl ⟨by rfl, fun W9 hW => by clear hHeld hW; simp only [jA, jB, jC]; go_simp⟩) ?_
  simp only [Act.put, jA, jB, jC, jD, jE, jF]
  refine tkH 1 (.int .i64 T.id) rfl (by kernel_rfl) (fun _ _ _ => False.elim) hHeld (Or.inl ⟨by rfl, fun W9 hW => by obtain ⟨q0, q1, q2, q3, q4, q5, q6, q7, q8, q9, q10, q11, q12, q13⟩ := HKT.out _ (below_step HCw5.out hW.out); clear hHeld hW; simp only [jA, jB, jC]; go_simp⟩) ?_
  simp only [Act.put, jA, jB, jC, jD, jE, jF]
  refine tkH 3 (.pointer (some ⟨w.heap.size + 2, 1, none⟩)) rfl (by kernel_rfl) (fun _ _ _ => False.elim) hHeld (Or.inl ⟨by rfl, fun W9 hW => by clear hHeld hW; simp only [jA, jB, jC]; go_simp⟩) ?_
  simp only [Act.put, jA, jB, jC, jD, jE, jF]
  refine tkH 4 (.slice v1 (entVal T X r).length v2) rfl (by kernel_rfl) (fun _ _ _ => False.elim) hHeld (Or.inl ⟨by rfl, fun W9 hW => by obtain ⟨q0, q1, q2, q3, q4, q5, q6, q7, q8, q9, q10, q11, q12, q13⟩ := HKT.out _ (below_step HCw5.out hW.out); clear hHeld hW; simp only [jA, jB, jC]; go_simp⟩) ?_
  simp only [Act.put, jA, jB, jC, jD, jE, jF]
  refine rdH 2 (by kernel_rfl) rfl fun K hK => ?_
  go_simp
  have CQ := hid (head_any Wd 114 T.id (by decide) (by decide) HT.out.tid)
  go_wp2_with (first | (go_at_call 34; refine CQ.out.mono ?_; rintro en w6 ⟨v6, rfl, hoE, hbE⟩; have HBE := hid (below_step hHeld.out hbE); have HO6 := hid hoE; have HV6 := hid (HV5.out.old (below_step hHeld.out hbE)); clear hoE hbE; have HCw6 := hid (below_step HCw5.out HBE.out)))
  clear CQ hHeld
  refine hK.out _ _ HBE (fun hHeld => ?_)
  clear hK K
  try simp only [Act.put, jA, jB, jC, jD, jE, jF]
  refine wpAnyH_low (S' := fun V => Hid (Below w6.heap.size w6 V)) (fun V hV => hid (below_step HBE.out hV.out)) _ _ _ _ ?_
  clear hHeld HBE
  have hHeld : Hid (Below w6.heap.size w6 w6) := hid (Below.refl _ _)
  refine rdH 5 (by kernel_rfl) rfl fun K hK => ?_
  go_simp
  have CQ := hid (vbehind_ok (p := headB 114 T.id) (l := pickL r T.key) ((Rd.own HO6.out).old hHeld.out) (HPN.out.old (below_step HCw6.out hHeld.out)) HOJ.out (by rw [pickL_len]; have := HT.out.keyl; omega))
  go_wp2_with (first | (go_at_call 61; refine CQ.out.mono ?_; rintro en w7 ⟨v7, rfl, hoE, hbE⟩; have HBE := hid (below_step hHeld.out hbE); have HO7 := hid hoE; have HV7 := hid (HV6.out.old (below_step hHeld.out hbE)); clear hoE hbE; have HCw7 := hid (below_step HCw6.out HBE.out)))
  clear CQ hHeld
  refine hK.out _ _ HBE (fun hHeld => ?_)
  clear hK K
  try simp only [Act.put, jA, jB, jC, jD, jE, jF]
  refine wpAnyH_low (S' := fun V => Hid (Below w7.heap.size w7 V)) (fun V hV => hid (below_step HBE.out hV.out)) _ _ _ _ ?_
  clear hHeld HBE
  have hHeld : Hid (Below w7.heap.size w7 w7) := hid (Below.refl _ _)
  refine tkH 6 (.tuple #[v7, .nilIface]) rfl (by kernel_rfl) (fun _ _ _ => False.elim) hHeld (Or.inl ⟨by rfl, fun W9 hW => by clear hHeld hW; simp only [jA, jB, jC]; go_simp⟩) ?_
  simp only [Act.put, jA, jB, jC, jD, jE, jF]
  refine tkH 7 (v7) rfl (by kernel_rfl) (fun _ _ _ => False.elim) hHeld (Or.inl ⟨by rfl, fun W9 hW => by clear hHeld hW; simp only [jA, jB, jC]; go_simp⟩) ?_
  simp only [Act.put, jA, jB, jC, jD, jE, jF]
  refine tkH 8 (.nilIface) rfl (by kernel_rfl) (fun _ _ _ => False.elim) hHeld (Or.inl ⟨by rfl, fun W9 hW => by clear hHeld hW; simp only [jA, jB, jC]; go_simp⟩) ?_
  simp only [Act.put, jA, jB, jC, jD, jE, jF]
  refine tkH 9 (v7) rfl (by kernel_rfl) (fun _ _ _ => False.elim) hHeld (Or.inl ⟨by rfl, fun W9 hW => by clear hHeld hW; simp only [jA, jB, jC]; go_simp⟩) ?_
  simp only [Act.put, jA, jB, jC, jD, jE, jF]
  refine tkH 10 (.nilIface) rfl (by kernel_rfl) (fun _ _ _ => False.elim) hHeld (Or.inl ⟨by rfl, fun W9 hW => by clear hHeld hW; simp only [jA, jB, jC]; go_simp⟩) ?_
  simp only [Act.put, jA, jB, jC, jD, jE, jF]
  refine wpAnyH_done (by kernel_rfl) (NoPanic.normal ?_) _
  clear hHeld
  have HK7 : Hid (Vs w7 v7 (pickL r T.key)) := hid (Vs.own (by rw [pickL_len]; have h := HO7.out; rw [pickL_len] at h; exact h))
  obtain ⟨b9, d9, rfl, -⟩ := HK7.out.form
  have CC := hid (catV2_any HV7.out HK7.out (by rw [pickL_len, pickL_len]; have h1 := HT.out.coll; have h2 := HT.out.keyl; omega))
  have HBW := hid (below_step HB.out HCw7.out)
  go_wp2_with (first | (go_at_call 62; refine CC.out.mono ?_; rintro en w8 ⟨v8, rfl, ho8, hb8⟩))
  go_ret2
  exact ⟨_, rfl, by rw [pickL_app]; exact Vs.own ho8, below_step HBW.out hb8⟩

set_option maxHeartbeats 8000000 in
theorem ownerOf_ok {N : Nat → Prop} {w : World} {cs ds : List Value} {T : Tab} {X : Idx} {r : List Vl} {k1 v1 : Option Addr} {k2 v2 : Nat} (h : TabN N w cs T) (h2 : IdxN N w ds X) (hti : TiOk T X) (hr : RwOk T r) (hpk : Rd w (.slice k1 (entKey T X r).length k2) (entKey T X r)) (hpv : Rd w (.slice v1 (entVal T X r).length v2) (entVal T X r)) (hkd : (∀ c ∈ T.cols, c.kind = 1 ∨ c.kind = 2) ∧ 1 ≤ T.cols.length ∧ T.cols.length ≤ 6) :
    Calls Tryd.prog 25 #[.agg cs.toArray, .agg ds.toArray, .agg #[.slice k1 (entKey T X r).length k2, .slice v1 (entVal T X r).length v2, .int .i64 0]] w (fun e w' => ∃ v, e = .returned (.tuple #[v, .nilIface]) ∧ Rd w' v (nameL T (pickL r T.key)) ∧ Below w.heap.size w w') := by
  obtain ⟨a1, e1, a3, e3, rfl⟩ := tab_form h
  have hX0 := h2
  obtain ⟨x6, rfl, ⟨hx6, -⟩, -⟩ := hX0
  obtain ⟨a4, e4, rfl, -, -, -⟩ := zs_cells hx6
  have H0 := hid h
  have H1 := hid h2
  have HPK0 := hid hpk
  have HPV0 := hid hpv
  have HT := hid hti
  have HR := hid hr
  clear h h2 hx6 hpk hpv hti hr
  go_enter Tryd.func25, Tryd.ntmps25
  go_upto_region 1 with fail
  have hb := (Below.refl w.heap.size w).alloc (Nat.le_refl _) (.cells #[.int .i64 T.id, .string ⟨T.name.toArray⟩, .slice a1 T.cols.length e1, .slice a3 T.key.length e3] 25)
  have hz := heap_alloc_new w (.cells #[.int .i64 T.id, .string ⟨T.name.toArray⟩, .slice a1 T.cols.length e1, .slice a3 T.key.length e3] 25)
  have hs : (w.alloc (.cells #[.int .i64 T.id, .string ⟨T.name.toArray⟩, .slice a1 T.cols.length e1, .slice a3 T.key.length e3] 25)).heap.size = w.heap.size + 1 := by simp
  generalize w.alloc (.cells #[.int .i64 T.id, .string ⟨T.name.toArray⟩, .slice a1 T.cols.length e1, .slice a3 T.key.length e3] 25) = w1 at *
  have hb2 := (Below.refl w1.heap.size w1).alloc (Nat.le_refl _) (.cells #[.int .i64 X.id, .int .i64 X.table, .string ⟨X.name.toArray⟩, .slice a4 X.cols.length e4, .bool X.uniq, .int .i64 X.state, .bool X.bad] 27)
  have hx2 := heap_alloc_new w1 (.cells #[.int .i64 X.id, .int .i64 X.table, .string ⟨X.name.toArray⟩, .slice a4 X.cols.length e4, .bool X.uniq, .int .i64 X.state, .bool X.bad] 27)
  have hs2 : (w1.alloc (.cells #[.int .i64 X.id, .int .i64 X.table, .string ⟨X.name.toArray⟩, .slice a4 X.cols.length e4, .bool X.uniq, .int .i64 X.state, .bool X.bad] 27)).heap.size = w1.heap.size + 1 := by simp
  generalize w1.alloc (.cells #[.int .i64 X.id, .int .i64 X.table, .string ⟨X.name.toArray⟩, .slice a4 X.cols.length e4, .bool X.uniq, .int .i64 X.state, .bool X.bad] 27) = w2 at *
  have hb3 := (Below.refl w2.heap.size w2).alloc (Nat.le_refl _) (.cells #[.slice k1 (entKey T X r).length k2, .slice v1 (entVal T X r).length v2, .int .i64 0] 34)
  have hp3 := heap_alloc_new w2 (.cells #[.slice k1 (entKey T X r).length k2, .slice v1 (entVal T X r).length v2, .int .i64 0] 34)
  generalize w2.alloc (.cells #[.slice k1 (entKey T X r).length k2, .slice v1 (entVal T X r).length v2, .int .i64 0] 34) = w3 at *
  have hz2 := (hb2.block _ (lt_of_block hz)).trans hz
  have hz3 := (hb3.block _ (lt_of_block hz2)).trans hz2
  rw [hs] at hx2 hs2
  have hx3 := (hb3.block _ (lt_of_block hx2)).trans hx2
  rw [hs2] at hp3
  have HB := hid (below_step (below_step hb hb2) hb3)
  have HKT : Hid (∀ V, Below w3.heap.size w3 V → V.cell? ⟨w.heap.size, 0, none⟩ = some (.int .i64 T.id) ∧ V.cell? ⟨w.heap.size, 1, none⟩ = some (.string ⟨T.name.toArray⟩) ∧ V.cell? ⟨w.heap.size, 2, none⟩ = some (.slice a1 T.cols.length e1) ∧ V.cell? ⟨w.heap.size, 3, none⟩ = some (.slice a3 T.key.length e3) ∧ V.cell? ⟨w.heap.size + 1, 0, none⟩ = some (.int .i64 X.id) ∧ V.cell? ⟨w.heap.size + 1, 1, none⟩ = some (.int .i64 X.table) ∧ V.cell? ⟨w.heap.size + 1, 2, none⟩ = some (.string ⟨X.name.toArray⟩) ∧ V.cell? ⟨w.heap.size + 1, 3, none⟩ = some (.slice a4 X.cols.length e4) ∧ V.cell? ⟨w.heap.size + 1, 4, none⟩ = some (.bool X.uniq) ∧ V.cell? ⟨w.heap.size + 1, 5, none⟩ = some (.int .i64 X.state) ∧ V.cell? ⟨w.heap.size + 1, 6, none⟩ = some (.bool X.bad) ∧ V.cell? ⟨w.heap.size + 2, 0, none⟩ = some (.slice k1 (entKey T X r).length k2) ∧ V.cell? ⟨w.heap.size + 2, 1, none⟩ = some (.slice v1 (entVal T X r).length v2) ∧ V.cell? ⟨w.heap.size + 2, 2, none⟩ = some (.int .i64 0)) := hid (fun V hV => by
    have h1 := (hV.block _ (lt_of_block hz3)).trans hz3
    have h2 := (hV.block _ (lt_of_block hx3)).trans hx3
    have h3 := (hV.block _ (lt_of_block hp3)).trans hp3
    exact ⟨cell_in h1 0 _ rfl, cell_in h1 1 _ rfl, cell_in h1 2 _ rfl, cell_in h1 3 _ rfl, cell_in h2 0 _ rfl, cell_in h2 1 _ rfl, cell_in h2 2 _ rfl, cell_in h2 3 _ rfl, cell_in h2 4 _ rfl, cell_in h2 5 _ rfl, cell_in h2 6 _ rfl, cell_in h3 0 _ rfl, cell_in h3 1 _ rfl, cell_in h3 2 _ rfl⟩)
  have HT3 := hid (H0.out.old HB.out)
  have HX3 := hid (H1.out.old HB.out)
  have HPK := hid (HPK0.out.old HB.out)
  have HPV := hid (HPV0.out.old HB.out)
  have HCw3 : Hid (Below w3.heap.size w3 w3) := hid (Below.refl _ _)
  clear hb hb2 hb3 hz hz2 hz3 hx2 hx3 hp3 hs hs2 H0 H1 HPK0 HPV0
  have HKD := hid hkd
  have HBK := hid (back_ok (X := X) HR.out HKD.out.1)
  clear hkd
  have CW := fun (s : ByteArray) W => wrap_nil s W
  obtain ⟨q0, q1, q2, q3, q4, q5, q6, q7, q8, q9, q10, q11, q12, q13⟩ := HKT.out _ HCw3.out
  have CV := hid (valuesOf_ok HT3.out HX3.out HT.out HR.out HPK.out HPV.out)
  go_upto_region 4 with (first | (go_at_call 48; refine CV.out.mono ?_; rintro en w4 ⟨v4, rfl, hv4, hb4⟩; have HCw4 := hid hb4; have HV4 := hid hv4; clear q0 q1 q2 q3 q4 q5 q6 q7 q8 q9 q10 q11 q12 q13 hv4 hb4 CV))
  obtain ⟨a9, c9, rfl, -⟩ := HV4.out.form
  have HTI : Hid (∃ x y, ([.int .i64 T.id, .string ⟨T.name.toArray⟩, .slice a1 T.cols.length e1, .slice a3 T.key.length e3] : List Value) = [.int .i64 T.id, .string ⟨T.name.toArray⟩, x, y] ∧ ClsN N w3 x T.cols ∧ ZsN N w3 y T.key ∧ x.oneCell' = true ∧ y.oneCell' = true) := HT3
  obtain ⟨xk, yk, hxy, -, hzk, -, -⟩ := HTI.out
  obtain ⟨rfl, rfl⟩ : Value.slice a1 T.cols.length e1 = xk ∧ Value.slice a3 T.key.length e3 = yk := by simpa using hxy
  have HZK := hid hzk.1
  have HXI : Hid (∃ y, ([.int .i64 X.id, .int .i64 X.table, .string ⟨X.name.toArray⟩, .slice a4 X.cols.length e4, .bool X.uniq, .int .i64 X.state, .bool X.bad] : List Value) = [.int .i64 X.id, .int .i64 X.table, .string ⟨X.name.toArray⟩, y, .bool X.uniq, .int .i64 X.state, .bool X.bad] ∧ ZsN N w3 y X.cols ∧ y.oneCell' = true) := HX3
  obtain ⟨yc, hyc, hzc, -⟩ := HXI.out
  obtain rfl : Value.slice a4 X.cols.length e4 = yc := by simpa using hyc
  have HZC := hid hzc.1
  clear hxy hyc hzk hzc HTI HXI
  refine wp_region_noPanic ?_
  refine wp_region_held_drew (S := fun V => Hid (Below w4.heap.size w4 V)) (by kernel_rfl) (hid (Below.drew (Below.refl _ _))) (fun hHeld => ?_)
  generalize w4.drew = Wd at *
  refine tkH 0 (.agg #[.int .i64 T.id, .string ⟨T.name.toArray⟩, .slice a1 T.cols.length e1, .slice a3 T.key.length e3]) rfl (by kernel_rfl) (fun _ _ _ => False.elim) hHeld (Or.inl ⟨by rfl, fun W9 hW => by obtain ⟨q0, q1, q2, q3, q4, q5, q6, q7, q8, q9, q10, q11, q12, q13⟩ := HKT.out _ (below_step HCw4.out hW.out); clear hHeld hW; simp only [jA, jB, jC]; go_simp⟩) ?_
  simp only [Act.put, jA, jB, jC, jD, jE, jF]
  refine tkH 1 (.pointer (some ⟨w.heap.size + 1, 3, none⟩)) rfl (by kernel_rfl) (fun _ _ _ => False.elim) hHeld (Or.inl ⟨by rfl, fun W9 hW => by clear hHeld hW; simp only [jA, jB, jC]; go_simp⟩) ?_
  simp only [Act.put, jA, jB, jC, jD, jE, jF]
  refine tkH 2 (.slice a4 X.cols.length e4) rfl (by kernel_rfl) (fun _ _ _ => False.elim) hHeld (Or.inl ⟨by rfl, fun W9 hW => by obtain ⟨q0, q1, q2, q3, q4, q5, q6, q7, q8, q9, q10, q11, q12, q13⟩ := HKT.out _ (below_step HCw4.out hW.out); clear hHeld hW; simp only [jA, jB, jC]; go_simp⟩) ?_
  simp only [Act.put, jA, jB, jC, jD, jE, jF]
  refine tkH 3 (.pointer (some ⟨w.heap.size, 3, none⟩)) rfl (by kernel_rfl) (fun _ _ _ => False.elim) hHeld (Or.inl ⟨by rfl, fun W9 hW => by clear hHeld hW; simp only [jA, jB, jC]; go_simp⟩) ?_
  simp only [Act.put, jA, jB, jC, jD, jE, jF]
  refine tkH 4 (.slice a3 T.key.length e3) rfl (by kernel_rfl) (fun _ _ _ => False.elim) hHeld (Or.inl ⟨by rfl, fun W9 hW => by obtain ⟨q0, q1, q2, q3, q4, q5, q6, q7, q8, q9, q10, q11, q12, q13⟩ := HKT.out _ (below_step HCw4.out hW.out); clear hHeld hW; simp only [jA, jB, jC]; go_simp⟩) ?_
  simp only [Act.put, jA, jB, jC, jD, jE, jF]
  refine tkH 7 (.slice a9 (pickL r (X.cols ++ T.key)).length c9) rfl (by kernel_rfl) (fun _ _ _ => False.elim) hHeld (Or.inl ⟨by rfl, fun W9 hW => by clear hHeld hW; simp only [jA, jB, jC]; go_simp⟩) ?_
  simp only [Act.put, jA, jB, jC, jD, jE, jF]
  refine rdH 5 (by kernel_rfl) rfl fun K hK => ?_
  go_simp
  have HBE : Hid (Below w4.heap.size w4 (Wd.alloc (.cells #[.slice a4 X.cols.length e4, .slice a3 T.key.length e3] 23))) := hid (hHeld.out.alloc hHeld.out.size (.cells #[.slice a4 X.cols.length e4, .slice a3 T.key.length e3] 23))
  have CC := hid (catI2_any (w := Wd) (HZC.out.old (below_step HCw4.out hHeld.out)) (HZK.out.old (below_step HCw4.out hHeld.out)) (by have h1 := HT.out.coll; have h2 := HT.out.keyl; omega))
  have HHD := hid hHeld.out
  refine hK.out _ _ HBE (fun hHeld => ?_)
  clear hK K
  try simp only [Act.put, jA, jB, jC, jD, jE, jF]
  refine rdH 6 (by kernel_rfl) rfl fun K hK => ?_
  go_simp
  go_wp2_with (first | (go_at_call 50; refine CC.out.mono ?_; rintro en w5 ⟨v5, rfl, hr5, hbE⟩; have HBF := hid (below_step HHD.out hbE); have HR5 := hid hr5; have HCw5 := hid (below_step HCw4.out HBF.out); have HV5 := hid (HV4.out.old HBF.out); clear hr5 hbE))
  clear CC hHeld HBE
  refine hK.out _ _ HBF (fun hHeld => ?_)
  clear hK K
  try simp only [Act.put, jA, jB, jC, jD, jE, jF]
  have HBE := HBF
  clear HBF
  refine wpAnyH_low (S' := fun V => Hid (Below w5.heap.size w5 V)) (fun V hV => hid (below_step HBE.out hV.out)) _ _ _ _ ?_
  clear hHeld HBE
  have hHeld : Hid (Below w5.heap.size w5 w5) := hid (Below.refl _ _)
  refine rdH 8 (by kernel_rfl) rfl fun K hK => ?_
  go_simp
  have CQ := hid (rowWith_ok (HT3.out.old (below_step HCw5.out hHeld.out)) (HR5.out.old hHeld.out) (HV5.out.old hHeld.out) (fun z hz => by rcases List.mem_append.1 hz with hz | hz; exact HT.out.cols z hz; exact HT.out.key z hz) (by rw [List.length_append]; have h1 := HT.out.coll; have h2 := HT.out.keyl; omega) HR.out.ok.1 HKD.out.2.1 HKD.out.2.2)
  go_wp2_with (first | (go_at_call 49; refine CQ.out.mono ?_; rintro en w6 ⟨b9, d9, rfl, hvE, hbE⟩; have HBE := hid (below_step hHeld.out hbE); have HV6 := hid hvE; clear hvE hbE; have HCw6 := hid (below_step HCw5.out HBE.out)))
  clear CQ hHeld
  refine hK.out _ _ HBE (fun hHeld => ?_)
  clear hK K
  try simp only [Act.put, jA, jB, jC, jD, jE, jF]
  refine wpAnyH_low (S' := fun V => Hid (Below w6.heap.size w6 V)) (fun V hV => hid (below_step HBE.out hV.out)) _ _ _ _ ?_
  clear hHeld HBE
  have hHeld : Hid (Below w6.heap.size w6 w6) := hid (Below.refl _ _)
  refine tkH 9 (.tuple #[.slice b9 T.cols.length d9, .nilIface]) rfl (by kernel_rfl) (fun _ _ _ => False.elim) hHeld (Or.inl ⟨by rfl, fun W9 hW => by clear hHeld hW; simp only [jA, jB, jC]; go_simp⟩) ?_
  simp only [Act.put, jA, jB, jC, jD, jE, jF]
  refine tkH 10 (.slice b9 T.cols.length d9) rfl (by kernel_rfl) (fun _ _ _ => False.elim) hHeld (Or.inl ⟨by rfl, fun W9 hW => by clear hHeld hW; simp only [jA, jB, jC]; go_simp⟩) ?_
  simp only [Act.put, jA, jB, jC, jD, jE, jF]
  refine tkH 11 (.nilIface) rfl (by kernel_rfl) (fun _ _ _ => False.elim) hHeld (Or.inl ⟨by rfl, fun W9 hW => by clear hHeld hW; simp only [jA, jB, jC]; go_simp⟩) ?_
  simp only [Act.put, jA, jB, jC, jD, jE, jF]
  refine tkH 12 (.slice b9 T.cols.length d9) rfl (by kernel_rfl) (fun _ _ _ => False.elim) hHeld (Or.inl ⟨by rfl, fun W9 hW => by clear hHeld hW; simp only [jA, jB, jC]; go_simp⟩) ?_
  simp only [Act.put, jA, jB, jC, jD, jE, jF]
  refine tkH 13 (.nilIface) rfl (by kernel_rfl) (fun _ _ _ => False.elim) hHeld (Or.inl ⟨by rfl, fun W9 hW => by clear hHeld hW; simp only [jA, jB, jC]; go_simp⟩) ?_
  simp only [Act.put, jA, jB, jC, jD, jE, jF]
  refine wpAnyH_done (by kernel_rfl) (NoPanic.normal ?_) _
  clear hHeld
  have HBR : Hid (Vs w6 (.slice b9 T.cols.length d9) (backR T X r)) := HV6
  obtain ⟨q0, q1, q2, q3, q4, q5, q6, q7, q8, q9, q10, q11, q12, q13⟩ := HKT.out _ HCw6.out
  have CE := hid (entryOf_ok (HT3.out.old HCw6.out) (HX3.out.old HCw6.out) HT.out HBR.out HBK.out)
  go_upto_region 8 with (first | (go_at_call 24; refine CE.out.mono ?_; rintro en w7 ⟨vk, vv, rfl, hp7, hb7⟩; obtain ⟨ak, ck, rfl, hrk⟩ := zown_rd hp7.1; obtain ⟨av, cv, rfl, hrv⟩ := zown_rd hp7.2; have HCw7 := hid (below_step HCw6.out hb7); have HRK := hid hrk; have HRV := hid hrv; have HBR7 := hid (HBR.out.old hb7); clear q0 q1 q2 q3 q4 q5 q6 q7 q8 q9 q10 q11 q12 q13 hp7 hb7 hrk hrv CE))
  rw [back_entKey HT.out] at *
  rw [back_entVal HT.out] at *
  have hb8 := (Below.refl w7.heap.size w7).alloc (Nat.le_refl _) (.cells #[.slice ak (entKey T X r).length ck, .slice av (entVal T X r).length cv, .int .i64 0] 34)
  have hz8 := heap_alloc_new w7 (.cells #[.slice ak (entKey T X r).length ck, .slice av (entVal T X r).length cv, .int .i64 0] 34)
  have HRK8 := hid (HRK.out.old hb8)
  have HRV8 := hid (HRV.out.old hb8)
  have HBR8 := hid (HBR7.out.old hb8)
  generalize w7.alloc (.cells #[.slice ak (entKey T X r).length ck, .slice av (entVal T X r).length cv, .int .i64 0] 34) = w8 at *
  have HCw8 := hid (below_step HCw7.out hb8)
  have p0 := cell_in hz8 0 _ rfl
  have p1 := cell_in hz8 1 _ rfl
  have p2 := cell_in hz8 2 _ rfl
  clear hb8 hz8 HRK HRV HBR7
  obtain ⟨q0, q1, q2, q3, q4, q5, q6, q7, q8, q9, q10, q11, q12, q13⟩ := HKT.out _ HCw8.out
  have CS := hid (samePair_ok (w := w8) (n1 := 0) (n2 := 0) HRK8.out HRV8.out (HPK.out.old HCw8.out) (HPV.out.old HCw8.out))
  go_upto_region 12 with (first | (go_at_call 51; refine CS.out.mono ?_; rintro en w9 ⟨rfl, hb9⟩; have HCw9 := hid (below_step HCw8.out hb9); have HBR9 := hid (HBR8.out.old hb9); clear q0 q1 q2 q3 q4 q5 q6 q7 q8 q9 q10 q11 q12 q13 p0 p1 p2 hb9 CS))
  obtain ⟨q0, q1, q2, q3, q4, q5, q6, q7, q8, q9, q10, q11, q12, q13⟩ := HKT.out _ HCw9.out
  have CP := hid (pairOf_ok (X := X) (HT3.out.old HCw9.out) HT.out HKD.out.2.2 HBR9.out HBK.out)
  rw [back_key HT.out] at CP
  go_upto_region 13 with (first | (go_at_call 29; refine CP.out.mono ?_; rintro en w10 ⟨an, cn, va9, vn9, vc9, rfl, hn10, hb10⟩; have HCw10 := hid (below_step HCw9.out hb10); have HN10 := hid (Rd.own hn10); clear q0 q1 q2 q3 q4 q5 q6 q7 q8 q9 q10 q11 q12 q13 hn10 hb10 CP))
  obtain ⟨LA, hLA⟩ : ∃ LA, LA = nameL T (pickL r T.key) := ⟨_, rfl⟩
  rw [← hLA]
  rw [← hLA] at HN10
  have HLA := hid hLA
  clear hLA
  have hb11 := (Below.refl w10.heap.size w10).alloc (Nat.le_refl _) (.cells #[.slice an LA.length cn, .slice va9 vn9 vc9, .int .i64 0] 34)
  have hz11 := heap_alloc_new w10 (.cells #[.slice an LA.length cn, .slice va9 vn9 vc9, .int .i64 0] 34)
  have HN11 := hid (HN10.out.old hb11)
  generalize w10.alloc (.cells #[.slice an LA.length cn, .slice va9 vn9 vc9, .int .i64 0] 34) = w11 at *
  have HCw11 := hid (below_step HCw10.out hb11)
  have n0 := cell_in hz11 0 _ rfl
  clear hb11 hz11
  go_wp2_with fail
  go_ret2
  exact ⟨_, rfl, by rw [← HLA.out]; exact HN11.out, below_step HB.out HCw11.out⟩

set_option maxHeartbeats 8000000 in
theorem owner_ok {N : Nat → Prop} {w : World} {cs ds : List Value} {T : Tab} {X : Idx} {r : List Vl} {k1 v1 : Option Addr} {k2 v2 : Nat} (h : TabN N w cs T) (h2 : IdxN N w ds X) (hti : TiOk T X) (hr : RwOk T r) (hpk : Rd w (.slice k1 (entKey T X r).length k2) (entKey T X r)) (hpv : Rd w (.slice v1 (entVal T X r).length v2) (entVal T X r)) (hkd : (∀ c ∈ T.cols, c.kind = 1 ∨ c.kind = 2) ∧ 1 ≤ T.cols.length ∧ T.cols.length ≤ 6) :
    Calls Tryd.prog 9 #[.agg cs.toArray, .agg ds.toArray, .agg #[.slice k1 (entKey T X r).length k2, .slice v1 (entVal T X r).length v2, .int .i64 0]] w (fun e w' => ∃ v, e = .returned (.tuple #[v, .bool true]) ∧ Rd w' v (nameL T (pickL r T.key)) ∧ Below w.heap.size w w') := by
  obtain ⟨a1, e1, a3, e3, rfl⟩ := tab_form h
  have hX0 := h2
  obtain ⟨x6, rfl, ⟨hx6, -⟩, -⟩ := hX0
  obtain ⟨a4, e4, rfl, -, -, -⟩ := zs_cells hx6
  have H0 := hid h
  have H1 := hid h2
  have HPK0 := hid hpk
  have HPV0 := hid hpv
  have HT := hid hti
  have HR := hid hr
  clear h h2 hx6 hpk hpv hti hr
  go_enter Tryd.func9, Tryd.ntmps9
  go_upto_region 1 with fail
  have hb := (Below.refl w.heap.size w).alloc (Nat.le_refl _) (.cells #[.int .i64 T.id, .string ⟨T.name.toArray⟩, .slice a1 T.cols.length e1, .slice a3 T.key.length e3] 25)
  have hz := heap_alloc_new w (.cells #[.int .i64 T.id, .string ⟨T.name.toArray⟩, .slice a1 T.cols.length e1, .slice a3 T.key.length e3] 25)
  have hs : (w.alloc (.cells #[.int .i64 T.id, .string ⟨T.name.toArray⟩, .slice a1 T.cols.length e1, .slice a3 T.key.length e3] 25)).heap.size = w.heap.size + 1 := by simp
  generalize w.alloc (.cells #[.int .i64 T.id, .string ⟨T.name.toArray⟩, .slice a1 T.cols.length e1, .slice a3 T.key.length e3] 25) = w1 at *
  have hb2 := (Below.refl w1.heap.size w1).alloc (Nat.le_refl _) (.cells #[.int .i64 X.id, .int .i64 X.table, .string ⟨X.name.toArray⟩, .slice a4 X.cols.length e4, .bool X.uniq, .int .i64 X.state, .bool X.bad] 27)
  have hx2 := heap_alloc_new w1 (.cells #[.int .i64 X.id, .int .i64 X.table, .string ⟨X.name.toArray⟩, .slice a4 X.cols.length e4, .bool X.uniq, .int .i64 X.state, .bool X.bad] 27)
  have hs2 : (w1.alloc (.cells #[.int .i64 X.id, .int .i64 X.table, .string ⟨X.name.toArray⟩, .slice a4 X.cols.length e4, .bool X.uniq, .int .i64 X.state, .bool X.bad] 27)).heap.size = w1.heap.size + 1 := by simp
  generalize w1.alloc (.cells #[.int .i64 X.id, .int .i64 X.table, .string ⟨X.name.toArray⟩, .slice a4 X.cols.length e4, .bool X.uniq, .int .i64 X.state, .bool X.bad] 27) = w2 at *
  have hb3 := (Below.refl w2.heap.size w2).alloc (Nat.le_refl _) (.cells #[.slice k1 (entKey T X r).length k2, .slice v1 (entVal T X r).length v2, .int .i64 0] 34)
  have hp3 := heap_alloc_new w2 (.cells #[.slice k1 (entKey T X r).length k2, .slice v1 (entVal T X r).length v2, .int .i64 0] 34)
  generalize w2.alloc (.cells #[.slice k1 (entKey T X r).length k2, .slice v1 (entVal T X r).length v2, .int .i64 0] 34) = w3 at *
  have hz2 := (hb2.block _ (lt_of_block hz)).trans hz
  have hz3 := (hb3.block _ (lt_of_block hz2)).trans hz2
  rw [hs] at hx2 hs2
  have hx3 := (hb3.block _ (lt_of_block hx2)).trans hx2
  rw [hs2] at hp3
  have HB := hid (below_step (below_step hb hb2) hb3)
  have HKT : Hid (∀ V, Below w3.heap.size w3 V → V.cell? ⟨w.heap.size, 0, none⟩ = some (.int .i64 T.id) ∧ V.cell? ⟨w.heap.size, 1, none⟩ = some (.string ⟨T.name.toArray⟩) ∧ V.cell? ⟨w.heap.size, 2, none⟩ = some (.slice a1 T.cols.length e1) ∧ V.cell? ⟨w.heap.size, 3, none⟩ = some (.slice a3 T.key.length e3) ∧ V.cell? ⟨w.heap.size + 1, 0, none⟩ = some (.int .i64 X.id) ∧ V.cell? ⟨w.heap.size + 1, 1, none⟩ = some (.int .i64 X.table) ∧ V.cell? ⟨w.heap.size + 1, 2, none⟩ = some (.string ⟨X.name.toArray⟩) ∧ V.cell? ⟨w.heap.size + 1, 3, none⟩ = some (.slice a4 X.cols.length e4) ∧ V.cell? ⟨w.heap.size + 1, 4, none⟩ = some (.bool X.uniq) ∧ V.cell? ⟨w.heap.size + 1, 5, none⟩ = some (.int .i64 X.state) ∧ V.cell? ⟨w.heap.size + 1, 6, none⟩ = some (.bool X.bad) ∧ V.cell? ⟨w.heap.size + 2, 0, none⟩ = some (.slice k1 (entKey T X r).length k2) ∧ V.cell? ⟨w.heap.size + 2, 1, none⟩ = some (.slice v1 (entVal T X r).length v2) ∧ V.cell? ⟨w.heap.size + 2, 2, none⟩ = some (.int .i64 0)) := hid (fun V hV => by
    have h1 := (hV.block _ (lt_of_block hz3)).trans hz3
    have h2 := (hV.block _ (lt_of_block hx3)).trans hx3
    have h3 := (hV.block _ (lt_of_block hp3)).trans hp3
    exact ⟨cell_in h1 0 _ rfl, cell_in h1 1 _ rfl, cell_in h1 2 _ rfl, cell_in h1 3 _ rfl, cell_in h2 0 _ rfl, cell_in h2 1 _ rfl, cell_in h2 2 _ rfl, cell_in h2 3 _ rfl, cell_in h2 4 _ rfl, cell_in h2 5 _ rfl, cell_in h2 6 _ rfl, cell_in h3 0 _ rfl, cell_in h3 1 _ rfl, cell_in h3 2 _ rfl⟩)
  have HT3 := hid (H0.out.old HB.out)
  have HX3 := hid (H1.out.old HB.out)
  have HPK := hid (HPK0.out.old HB.out)
  have HPV := hid (HPV0.out.old HB.out)
  have HCw3 : Hid (Below w3.heap.size w3 w3) := hid (Below.refl _ _)
  clear hb hb2 hb3 hz hz2 hz3 hx2 hx3 hp3 hs hs2 H0 H1 HPK0 HPV0
  have CO := hid (ownerOf_ok HT3.out HX3.out HT.out HR.out HPK.out HPV.out hkd)
  clear hkd
  obtain ⟨q0, q1, q2, q3, q4, q5, q6, q7, q8, q9, q10, q11, q12, q13⟩ := HKT.out _ HCw3.out
  go_upto_region 2 with (first | (go_at_call 25; refine CO.out.mono ?_; rintro en w4 ⟨v4, rfl, hv4, hb4⟩; have HCw4 := hid hb4; have HV4 := hid hv4; clear q0 q1 q2 q3 q4 q5 q6 q7 q8 q9 q10 q11 q12 q13 hv4 hb4 CO))
  go_wp2_with (first | (go_at_call 26; refine (fis_nil 0 _).mono ?_; rintro en w5 ⟨rfl, rfl⟩))
  go_ret2
  exact ⟨_, rfl, HV4.out, below_step HB.out HCw4.out⟩
end Go.Proofs.YtpdmocdfnakggaaDoor

set_option linter.unusedVariables false
set_option linter.unusedSimpArgs false
set_option maxRecDepth 100000
namespace Go.Proofs.YtpdmocdfnakggaaDoor
open Go.RowKit Go.Deep

set_option maxHeartbeats 1000000 in
theorem zbytes_any (w : World) {x y : Value} {A B : List UInt8} (hx : Rd w x A) (hy : Rd w y B) : Calls Tryd.prog 12 #[x, y] w (fun e w' => e = .returned (.bool (A == B)) ∧ w' = w) := by
  have t1 := hx.conv (P := Tryd.prog) 32 9 5 Tryd.underlying32 Tryd.underlying5 Tryd.underlying9
  have t2 := hy.conv (P := Tryd.prog) 32 9 5 Tryd.underlying32 Tryd.underlying5 Tryd.underlying9
  clear hx hy
  go_enter Tryd.func12, Tryd.ntmps12
  go_wp2_with fail
  go_ret
  exact ⟨by simp [ByteArray.toList_eq], rfl⟩

set_option maxHeartbeats 1000000 in
theorem zkey_ok {N : Nat → Prop} {w : World} {cs : List Value} {T : Tab} (h : TabN N w cs T) (hp : PlOk T.key T.cols.length) (hl : T.key.length ≤ 1000) {x : Value} {r : List Vl} (hx : Vs w x r) (hok : RowOk T r) :
    Calls Tryd.prog 11 #[.agg cs.toArray, x] w (fun e w' => ∃ a c, e = .returned (.slice a T.key.length c) ∧ Vs w' (.slice a T.key.length c) (pickL r T.key) ∧ Below w.heap.size w w') := by
  have H0 := hid h
  have HX := hid hx
  obtain ⟨a1, e1, a3, e3, rfl⟩ := tab_form h
  obtain ⟨a2, e2, rfl, hm⟩ := hx.form
  clear h hx
  go_enter Tryd.func11, Tryd.ntmps11
  go_upto_region 1 with fail
  have hb := (Below.refl w.heap.size w).alloc (Nat.le_refl _) (.cells #[.int .i64 T.id, .string ⟨T.name.toArray⟩, .slice a1 T.cols.length e1, .slice a3 T.key.length e3] 25)
  have hz := heap_alloc_new w (.cells #[.int .i64 T.id, .string ⟨T.name.toArray⟩, .slice a1 T.cols.length e1, .slice a3 T.key.length e3] 25)
  generalize w.alloc (.cells #[.int .i64 T.id, .string ⟨T.name.toArray⟩, .slice a1 T.cols.length e1, .slice a3 T.key.length e3] 25) = w1 at *
  have HB := hid hb
  have z0 := cell_in hz 0 _ rfl
  have z1 := cell_in hz 1 _ rfl
  have z2 := cell_in hz 2 _ rfl
  have z3 := cell_in hz 3 _ rfl
  clear hb hz
  have CK := hid (keyOf_ok (H0.out.old HB.out) hp hl (HX.out.old HB.out) hok)
  clear hok hp
  go_wp2_with (first | (go_at_call 28; refine CK.out.mono ?_; rintro en w2 ⟨v2, rfl, ho2, hb2⟩; have HB2 := hid (below_step HB.out hb2); have HO2 := hid ho2; clear z0 z1 z2 z3 ho2 hb2))
  go_ret
  have hv : Vs w2 v2 (pickL r T.key) := Vs.own (by rw [pickL_len]; exact HO2.out)
  obtain ⟨a, c, rfl, -⟩ := hv.form
  rw [pickL_len] at hv ⊢
  exact ⟨a, c, rfl, hv, HB2.out⟩

def zvEq (v u : Vl) : Bool := (v.k == u.k) && (v.i == u.i) && (v.s == u.s)
theorem zvEq_iff (v u : Vl) : zvEq v u = true ↔ v = u := by
  unfold zvEq
  obtain ⟨a, b, c⟩ := v
  obtain ⟨d, e, f⟩ := u
  simp [and_assoc]
set_option maxHeartbeats 2000000 in
theorem vplain1_f (v u : Vl) (w : World) :
    Calls Tryd.prog 31 #[sv v, sv u] w (Ans w (.bool (zvEq v u))) := by
  unfold zvEq
  have B1 := hid (((Below.refl w.heap.size w).alloc (Nat.le_refl _) (.cells #[.int .i64 v.k, .int .i64 v.i, .string ⟨v.s.toArray⟩] 44)).alloc (by simp) (.cells #[.int .i64 u.k, .int .i64 u.i, .string ⟨u.s.toArray⟩] 44))
  unfold sv
  cases h1 : (v.k == u.k) <;> cases h2 : (v.i == u.i) <;> cases h3 : (v.s == u.s)
  all_goals
    go_enter Tryd.func31, Tryd.ntmps31
    go_wp2
    go_ret
    refine ⟨?_, B1.out⟩
    first | rfl | (simp_all [ByteArray.toList_eq]; done)

def zlEq (a b : List Vl) : Bool := decide (a.length = b.length) && (List.range a.length).all (fun i => zvEq (a.getD i ⟨0, 0, []⟩) (b.getD i ⟨0, 0, []⟩))
theorem zlEq_iff (a b : List Vl) : zlEq a b = true ↔ a = b := by
  unfold zlEq
  simp only [Bool.and_eq_true, decide_eq_true_eq, List.all_eq_true, List.mem_range, zvEq_iff]
  constructor
  · rintro ⟨h1, h2⟩
    refine List.ext_getElem h1 (fun i p q => ?_)
    have := h2 i p
    rw [List.getD_eq_getElem?_getD, List.getD_eq_getElem?_getD, List.getElem?_eq_getElem p, List.getElem?_eq_getElem q] at this
    exact this
  · rintro rfl
    exact ⟨rfl, fun _ _ => rfl⟩

set_option maxHeartbeats 2000000 in
theorem vsame_f (x y : Value) (a b : List Vl) (w : World) (hx : Vs w x a) (hy : Vs w y b) :
    Calls Tryd.prog 30 #[x, y, .func (.func 31) #[] #[]] w (Ans w (.bool (zlEq a b))) := by
  obtain ⟨ax, cx, rfl, hm⟩ := hx.form
  obtain ⟨ay, cy, rfl, hm2⟩ := hy.form
  unfold maxLen at hm hm2
  have HX := hid hx
  have HY := hid hy
  clear hx hy
  by_cases hl : a.length = b.length
  · rw [← hl] at HY ⊢
    have HL := hid hl
    clear hl hm2
    go_enter Tryd.func30, Tryd.ntmps30
    go_wp2_with fail
    go_loopw [7] (fun i wr => ∃ k : Nat, k ≤ a.length ∧ i = .int .i64 k ∧ Hid (Below w.heap.size w wr) ∧ Hid (∀ j, j < k → zvEq (a.getD j ⟨0, 0, []⟩) (b.getD j ⟨0, 0, []⟩) = true)) (fun i _ => a.length - (intOf i).toNat)
    case atStart => exact ⟨0, by omega, rfl, Below.refl _ _, fun j hj => by omega⟩
    case round =>
      obtain ⟨k, hk, rfl, HB, HA⟩ := hrel
      by_cases hlt : k < a.length
      · have hv := List.getElem?_eq_getElem hlt
        have hu := List.getElem?_eq_getElem (l := b) (i := k) (by have := HL.out; omega)
        have hav : a.getD k ⟨0, 0, []⟩ = a[k] := by rw [List.getD_eq_getElem?_getD, hv]; rfl
        have hbu : b.getD k ⟨0, 0, []⟩ = b[k]'(by have := HL.out; omega) := by rw [List.getD_eq_getElem?_getD, hu]; rfl
        generalize a[k] = v at *
        generalize b[k]'_ = u at *
        obtain ⟨bb, off, rfl, d1, d2, d3⟩ := (HX.out.old HB.out).get hv
        obtain ⟨b2, off2, rfl, f1, f2, f3⟩ := (HY.out.old HB.out).get hu
        have HAB := hid (And.intro hav hbu)
        clear hv hu hav hbu
        have C := fun W => vplain1_f v u W
        unfold sv at C
        have hki : (k : Int) < (a.length : Int) := by omega
        cases hq : zvEq v u with
        | true =>
          have HNX : Hid (∀ j, j < k + 1 → zvEq (a.getD j ⟨0, 0, []⟩) (b.getD j ⟨0, 0, []⟩) = true) := hid (fun j hj => by
            by_cases e : j = k
            · subst e; rw [HAB.out.1, HAB.out.2]; exact hq
            · exact HA.out j (by omega))
          rw [hq] at C
          clear hq
          go_upto_region 6 with fail
          go_region_with (first | (go_at_call 31; refine (C _).mono ?_; rintro e w2 ⟨rfl, hb2⟩))
          all_goals
            have HB2 : Hid (Below w.heap.size w w2) := below_drew HB.out hb2
            clear hb2
            go_wp2_with fail
            go_roundw
            · exact ⟨k + 1, by omega, by go_num, HB2, HNX⟩
            · simp [intOf]; omega
        | false =>
          have HNO : Hid (zlEq a b = false) := hid (by
            rw [Bool.eq_false_iff]
            intro h
            rw [zlEq_iff] at h
            subst h
            rw [← HAB.out.1, ← HAB.out.2] at hq
            have := (zvEq_iff (a.getD k ⟨0, 0, []⟩) (a.getD k ⟨0, 0, []⟩)).2 rfl
            rw [this] at hq
            cases hq)
          rw [hq] at C
          clear hq
          go_upto_region 6 with fail
          go_region_with (first | (go_at_call 31; refine (C _).mono ?_; rintro e w2 ⟨rfl, hb2⟩))
          all_goals
            have HB2 : Hid (Below w.heap.size w w2) := below_drew HB.out hb2
            clear hb2
            go_wp2_with fail
            go_ret
            exact ⟨by rw [HNO.out]; rfl, HB2.out⟩
      · obtain rfl : k = a.length := by omega
        have HYES : Hid (zlEq a b = true) := hid (by
          unfold zlEq
          rw [decide_eq_true HL.out, Bool.true_and, List.all_eq_true]
          exact fun j hj => HA.out j (List.mem_range.1 hj))
        go_wp2_with fail
        go_ret
        exact ⟨by rw [HYES.out]; rfl, HB.out⟩
  · have hl2 : ((a.length : Int) == (b.length : Int)) = false := by simpa using fun e => hl (by exact_mod_cast e)
    have HNO : Hid (zlEq a b = false) := hid (by unfold zlEq; rw [decide_eq_false hl]; rfl)
    go_enter Tryd.func30, Tryd.ntmps30
    go_wp2_with fail
    go_ret
    exact ⟨by rw [HNO.out]; rfl, Below.refl _ _⟩

set_option maxHeartbeats 1000000 in
theorem vplain_f (x y : Value) (a b : List Vl) (w : World) (hx : Vs w x a) (hy : Vs w y b) :
    Calls Tryd.prog 14 #[x, y] w (Ans w (.bool (zlEq a b))) := by
  go_enter Tryd.func14, Tryd.ntmps14
  go_wp2_with fail
  refine (vsame_f x y a b w hx hy).mono ?_
  rintro en w1 ⟨rfl, hb⟩
  go_wp2_with fail
  go_ret
  exact ⟨rfl, hb⟩

theorem encL_inj {a b : List Vl} (ha : OkL a) (hb : OkL b) (h : encL a = encL b) : a = b :=
  cmpVs_eq ha hb (by rw [← enc_cmp a b ha hb, h, cb_self])
theorem nameL_inj {T : Tab} {a b : List Vl} (ha : OkL a) (hb : OkL b) : (nameL T a == nameL T b) = zlEq a b := by
  rw [Bool.eq_iff_iff, zlEq_iff, beq_iff_eq]
  constructor
  · intro h
    unfold nameL at h
    exact encL_inj ha hb (List.append_cancel_left h)
  · rintro rfl; rfl
theorem entKey_inj {T : Tab} {X : Idx} {r s : List Vl} (ht : TiOk T X) (hr : RwOk T r) (hs : RwOk T s) :
    (entKey T X r == entKey T X s) = (zlEq (pickL r X.cols) (pickL s X.cols) && (fullB X r || zlEq (pickL r T.key) (pickL s T.key))) := by
  rw [Bool.eq_iff_iff, beq_iff_eq, Bool.and_eq_true, Bool.or_eq_true, zlEq_iff, zlEq_iff]
  constructor
  · intro h
    unfold entKey at h
    have h1 := encL_inj (entVals_ok ht hr) (entVals_ok ht hs) (List.append_cancel_left h)
    rw [entVals_eq, entVals_eq] at h1
    obtain ⟨h2, h3⟩ := List.append_inj h1 (by rw [pickL_len, pickL_len])
    refine ⟨h2, ?_⟩
    have hf : fullB X r = fullB X s := by unfold fullB; rw [h2]
    cases hq : fullB X r with
    | true => exact Or.inl rfl
    | false =>
      unfold entMore at h3
      rw [← hf, hq] at h3
      exact Or.inr h3
  · rintro ⟨h2, h3⟩
    have hf : fullB X r = fullB X s := by unfold fullB; rw [h2]
    unfold entKey entVals
    rw [← hf, ← h2]
    rcases h3 with h3 | h3
    · rw [h3]; rfl
    · rw [h3]
end Go.Proofs.YtpdmocdfnakggaaDoor

set_option linter.unusedVariables false
set_option linter.unusedSimpArgs false
set_option maxRecDepth 100000
namespace Go.Proofs.YtpdmocdfnakggaaDoor
open Go.RowKit Go.Deep

theorem zlEq_comm (a b : List Vl) : zlEq a b = zlEq b a := by
  rw [Bool.eq_iff_iff, zlEq_iff, zlEq_iff]; exact eq_comm
theorem zlEq_take {A B : List Vl} {k : Nat} {v u : Vl} (ha : A[k]? = some v) (hb : B[k]? = some u) : zlEq (A.take (k + 1)) (B.take (k + 1)) = (zlEq (A.take k) (B.take k) && zvEq v u) := by
  have h1 : k < A.length := (List.getElem?_eq_some_iff.1 ha).1
  have h2 : k < B.length := (List.getElem?_eq_some_iff.1 hb).1
  rw [List.take_add_one, List.take_add_one, ha, hb, Bool.eq_iff_iff, Bool.and_eq_true, zlEq_iff, zlEq_iff, zvEq_iff]
  constructor
  · intro h
    have := List.append_inj h (by rw [List.length_take, List.length_take]; omega)
    exact ⟨this.1, by simpa using this.2⟩
  · rintro ⟨h, rfl⟩; rw [h]
theorem setRow_keep13 (w : World) (B : Nat) (cs : Array Value) : Keep (fun k => k = B) w (w.setRow B cs) := by
  refine ⟨rfl, rfl, rfl, ?_, ?_⟩
  · show w.heap.size ≤ (w.heap.modify B _).size
    simp
  · intro k hk hx
    show (w.heap.modify B _)[k]? = _
    rw [Array.getElem?_modify, if_neg (fun e => hx e.symm)]

set_option maxHeartbeats 4000000 in
theorem zpair_ok {N : Nat → Prop} {w : World} {cs : List Value} {T : Tab} {X : Idx} {x : Value} {r : List Vl} (h : TabN N w cs T) (hti : TiOk T X) (hcl : T.cols.length ≤ 6) (hx : Vs w x r) (hr : RwOk T r) :
    Calls Tryd.prog 13 #[.agg cs.toArray, x] w (fun e w' => ∃ a1 c1 vv, e = .returned (.agg #[.slice a1 (nameL T (pickL r T.key)).length c1, vv, .int .i64 0]) ∧ Rd w' (.slice a1 (nameL T (pickL r T.key)).length c1) (nameL T (pickL r T.key)) ∧ Below w.heap.size w w') := by
  have H0 := hid h
  have HX := hid hx
  obtain ⟨a1, e1, a3, e3, rfl⟩ := tab_form h
  obtain ⟨a2, e2, rfl, hm⟩ := hx.form
  clear h hx
  go_enter Tryd.func13, Tryd.ntmps13
  go_upto_region 1 with fail
  have hb := (Below.refl w.heap.size w).alloc (Nat.le_refl _) (.cells #[.int .i64 T.id, .string ⟨T.name.toArray⟩, .slice a1 T.cols.length e1, .slice a3 T.key.length e3] 25)
  have hz := heap_alloc_new w (.cells #[.int .i64 T.id, .string ⟨T.name.toArray⟩, .slice a1 T.cols.length e1, .slice a3 T.key.length e3] 25)
  have hs : (w.alloc (.cells #[.int .i64 T.id, .string ⟨T.name.toArray⟩, .slice a1 T.cols.length e1, .slice a3 T.key.length e3] 25)).heap.size = w.heap.size + 1 := by simp
  generalize w.alloc (.cells #[.int .i64 T.id, .string ⟨T.name.toArray⟩, .slice a1 T.cols.length e1, .slice a3 T.key.length e3] 25) = w1 at *
  have hb3 := (Below.refl w1.heap.size w1).alloc (Nat.le_refl _) (.cells #[.slice none 0 0, .slice none 0 0, .int .i64 0] 34)
  have hp3 := heap_alloc_new w1 (.cells #[.slice none 0 0, .slice none 0 0, .int .i64 0] 34)
  generalize w1.alloc (.cells #[.slice none 0 0, .slice none 0 0, .int .i64 0] 34) = w3 at *
  have HZ := hid ((hb3.block _ (lt_of_block hz)).trans hz)
  rw [hs] at hp3
  have HP := hid hp3
  have HB := hid (below_step hb hb3)
  clear hb hb3 hz hp3 hs
  have z0 := cell_in HZ.out 0 _ rfl
  have z1 := cell_in HZ.out 1 _ rfl
  have z2 := cell_in HZ.out 2 _ rfl
  have z3 := cell_in HZ.out 3 _ rfl
  have CE := hid (pairOf_ok (X := X) (H0.out.old HB.out) hti hcl (HX.out.old HB.out) hr)
  clear hti hr
  go_upto_region 2 with (first
    | (go_at_call 29; refine CE.out.mono ?_; rintro en w4 ⟨ak, ck, av, nv, cv, rfl, hp4, hb4⟩; have HB4 := hid (below_step HB.out hb4); have HR4 := hid (ownsRow_base hp4 (show w.heap.size + 2 ≤ w3.heap.size from lt_of_block HP.out)); have HP4 := hid ((hb4.block _ (lt_of_block HP.out)).trans HP.out); clear z0 z1 z2 z3 hb4 hp4 CE HZ HP))
  obtain ⟨LA, hLA⟩ : ∃ LA, LA = nameL T (pickL r T.key) := ⟨_, rfl⟩
  rw [← hLA]
  rw [← hLA] at HR4
  have HL := hid hLA
  clear hLA
  have hb5 := HB4.out.alloc HB4.out.size (.cells #[.slice ak LA.length ck, .slice av nv cv, .int .i64 0] 34)
  have hz5 := heap_alloc_new w4 (.cells #[.slice ak LA.length ck, .slice av nv cv, .int .i64 0] 34)
  have hp5 := (((Below.refl w4.heap.size w4).alloc (Nat.le_refl _) (.cells #[.slice ak LA.length ck, .slice av nv cv, .int .i64 0] 34)).block _ (lt_of_block HP4.out)).trans HP4.out
  have hr5 := HR4.out.alloc (.cells #[.slice ak LA.length ck, .slice av nv cv, .int .i64 0] 34)
  generalize w4.alloc (.cells #[.slice ak LA.length ck, .slice av nv cv, .int .i64 0] 34) = w5 at *
  have HB5 := hid hb5
  have HR5 := hid hr5
  have HP5 := hid hp5
  have q0 := cell_in hz5 0 _ rfl
  have q1 := cell_in hz5 1 _ rfl
  have q2 := cell_in hz5 2 _ rfl
  have u0 := cell_in hp5 0 _ rfl
  have u0f := free_in hp5 0
  have u1 := cell_in hp5 1 _ rfl
  have u1f := free_in hp5 1
  have u2 := cell_in hp5 2 _ rfl
  have u2f := free_in hp5 2
  clear hb5 hz5 hp5 hr5 HR4 HP4
  go_wp2_with fail
  obtain ⟨g1, g2⟩ := put3 HP5.out (.slice ak LA.length ck) (.slice av nv cv) (.int .i64 0)
  generalize ((w5.setCell ⟨w.heap.size + 1, 0, none⟩ (.slice ak LA.length ck)).setCell ⟨w.heap.size + 1, 1, none⟩ (.slice av nv cv)).setCell ⟨w.heap.size + 1, 2, none⟩ (.int .i64 0) = s9 at *
  refine bodyPost_ret (results_cell_row rfl _ _ (w.heap.size + 1) 34 _ (0, 0) _ rfl g1 Tryd.underlying34 rfl (by kernel_rfl)) rfl ?_
  have e1 := Rd.own (own_keep HR5.out g2 (fun k hk e => by have e8 : k = w.heap.size + 1 := e; have := (HR5.out.lt k hk).1; omega))
  rw [HL.out] at e1 ⊢
  exact ⟨_, _, _, rfl, e1, HB5.out.trans (g2.below HB5.out.size (fun k e => by have e8 : k = w.heap.size + 1 := e; omega))⟩
end Go.Proofs.YtpdmocdfnakggaaDoor

