import Derived.WalkKit
import Derived.OpenShut
import Derived.Test.YtiblambiebojmaaRows
import Derived.WalkSpells
import Derived.WalkLawsBesides
import Derived.Laws.AppendOwnNone
import Derived.ProofKit
import Derived.ShutString
import Derived.ChangeOld
import Derived.Below
import Derived.SizedLaws
import Derived.Deep.Slices
import Derived.Deep.AppendLies
import Derived.Deep.Strs
import Derived.Deep.RegionHeld3
import Derived.Lib.ConvBytes
import Derived.Laws.AppendOwn
import Derived.Deep.CutRange
import Derived.Deep.MidRow
import Derived.Great.Walk
import Derived.Lib.SlBytesConst
import Derived.JoinedCond
import Derived.Test.YtiblambiebojmaaWK1
import Derived.Test.YtiblambiebojmaaWK2
import Derived.Test.YtiblambiebojmaaWK3
import Derived.Test.YtiblambiebojmaaWK4
import Derived.Test.YtiblambiebojmaaWK5
import Derived.Test.YtiblambiebojmaaWK6
import Derived.Test.YtiblambiebojmaaWK7
import Derived.Test.YtiblambiebojmaaWK8
import Derived.Test.YtiblambiebojmaaWK9
import Derived.Test.YtiblambiebojmaaWK10
set_option linter.unusedVariables false
set_option linter.unusedSimpArgs false
set_option linter.unusedVariables false
set_option linter.unusedSimpArgs false
set_option maxRecDepth 100000
namespace Go.Proofs.Ytiblambiebojmaa
open Go.RowKit Go.Deep

set_option maxHeartbeats 8000000 in
theorem rCatalog_any {w : World} {R : Nat} {st : Rst} (h : RAt w R st.1 st.2) (hl : st.1.length ≤ 140737488355328) :
    Calls Try.prog 43 #[.agg #[.pointer (some ⟨R, 0, none⟩)]] w (fun en w' => ∃ cs, en = .returned (.agg cs.toArray) ∧ RdP sCatalog R w st cs w') := by
  have hb : Below w.heap.size w ((w.alloc (.cells #[.pointer (some ⟨R, 0, none⟩)] 105)).alloc (.cells #[.int .i64 0, .int .i64 0, .slice none 0 0, .slice none 0 0] 44)) := ((Below.refl _ _).alloc (Nat.le_refl _) _).alloc (by simp) _
  have hz := (Below.heap_alloc (w.alloc (.cells #[.pointer (some ⟨R, 0, none⟩)] 105)) (.cells #[.int .i64 0, .int .i64 0, .slice none 0 0, .slice none 0 0] 44) w.heap.size (by simp)).trans (heap_alloc_new w (.cells #[.pointer (some ⟨R, 0, none⟩)] 105))
  have hB := heap_alloc2_new w (.cells #[.pointer (some ⟨R, 0, none⟩)] 105) (.cells #[.int .i64 0, .int .i64 0, .slice none 0 0, .slice none 0 0] 44)
  obtain ⟨B, hBe⟩ : ∃ B, B = w.heap.size + 1 := ⟨_, rfl⟩
  have hRw := h.lt
  have hRB : R < B := by omega
  have HR0 := hid (h.old hb)
  rw [← hBe] at hB
  have HB0 := hid hB
  have HX0 := hid hz
  have HBW := hid hb
  have HL0 := hid hl
  clear h hb hz hB hl
  go_enter Try.func43, Try.ntmps43
  go_upto_region 1 with fail
  generalize (w.alloc (.cells #[.pointer (some ⟨R, 0, none⟩)] 105)).alloc (.cells #[.int .i64 0, .int .i64 0, .slice none 0 0, .slice none 0 0] 44) = w0 at *
  try rw [← hBe]
  have HK0 : Hid (Keep (fun j => j = R ∨ j = B) w0 w0) := hid (Keep.refl _ _)
  have HBE := hid hBe
  clear hBe
  have y0 := (one_cell HX0.out).1
  have CQ := hid (rtake_whole 0 HR0.out HL0.out HB0.out rfl hRB)
  go_upto_region 2 with (first | (go_at_call 78; refine CQ.out.mono ?_; rintro en w1 ⟨rfl, v0, hv⟩; have HV0 := hid hv; clear hv))
  clear CQ y0
  have HB1 : Hid (w1.heap[B]? = some (.cells #[v0, .int .i64 0, .slice none 0 0, .slice none 0 0] 44 (0, 0))) := HV0.out.2.1
  have HR1 : Hid (RAt w1 R (rdF .int st).2.1 (rdF .int st).2.2) := HV0.out.2.2.1
  have HL1 : Hid ((rdF .int st).2.1.length ≤ 140737488355328) := hid (Nat.le_trans (rd_len _ _) HL0.out)
  have HX1 := hid ((HV0.out.2.2.2.block w.heap.size (lt_of_block HX0.out) (fun e => by have e9 : w.heap.size = R ∨ w.heap.size = B := e; have := HBE.out; omega)).trans HX0.out)
  have HK1 := hid (HK0.out.trans HV0.out.2.2.2)
  have HE0_1 : Hid (EncN (fun j => B < j ∧ j < w1.heap.size) w1 .int [v0] (rdF .int st).1) := hid (EncN.mono (fun j hj => ⟨Nat.lt_of_lt_of_le (lt_of_block HB0.out) hj.1, hj.2⟩) _ HV0.out.1)
  have y0 := (one_cell HX1.out).1
  have CQ := hid (rtake_whole 1 HR1.out HL1.out HB1.out rfl hRB)
  go_upto_region 3 with (first | (go_at_call 78; refine CQ.out.mono ?_; rintro en w2 ⟨rfl, v1, hv⟩; have HV1 := hid hv; clear hv))
  clear CQ y0
  have HB2 : Hid (w2.heap[B]? = some (.cells #[v0, v1, .slice none 0 0, .slice none 0 0] 44 (0, 0))) := HV1.out.2.1
  have HR2 : Hid (RAt w2 R (rdF .int (rdF .int st).2).2.1 (rdF .int (rdF .int st).2).2.2) := HV1.out.2.2.1
  have HL2 : Hid ((rdF .int (rdF .int st).2).2.1.length ≤ 140737488355328) := hid (Nat.le_trans (rd_len _ _) HL1.out)
  have HX2 := hid ((HV1.out.2.2.2.block w.heap.size (lt_of_block HX1.out) (fun e => by have e9 : w.heap.size = R ∨ w.heap.size = B := e; have := HBE.out; omega)).trans HX1.out)
  have HK2 := hid (HK1.out.trans HV1.out.2.2.2)
  have HE1_2 : Hid (EncN (fun j => B < j ∧ j < w2.heap.size) w2 .int [v1] (rdF .int (rdF .int st).2).1) := hid (EncN.mono (fun j hj => ⟨Nat.lt_of_lt_of_le (lt_of_block HB1.out) hj.1, hj.2⟩) _ HV1.out.1)
  have HE0_2 : Hid (EncN (fun j => B < j ∧ j < w2.heap.size) w2 .int [v0] (rdF .int st).1) := hid (EncN.mono (fun j hj => ⟨hj.1, Nat.lt_of_lt_of_le hj.2 HV1.out.2.2.2.size⟩) _ (EncN.keep HV1.out.2.2.2 (fun j hj e => by have e9 : j = R ∨ j = B := e; have := hj.1; omega) _ HE0_1.out))
  have y0 := (one_cell HX2.out).1
  have CQ := hid (rlist_Table 2 HR2.out HL2.out HB2.out rfl hRB)
  go_upto_region 4 with (first | (go_at_call 80; refine CQ.out.mono ?_; rintro en w3 ⟨rfl, v2, hv⟩; have HV2 := hid hv; clear hv))
  clear CQ y0
  have HB3 : Hid (w3.heap[B]? = some (.cells #[v0, v1, v2, .slice none 0 0] 44 (0, 0))) := HV2.out.2.1
  have HR3 : Hid (RAt w3 R (rdF (.list sTable) (rdF .int (rdF .int st).2).2).2.1 (rdF (.list sTable) (rdF .int (rdF .int st).2).2).2.2) := HV2.out.2.2.1
  have HL3 : Hid ((rdF (.list sTable) (rdF .int (rdF .int st).2).2).2.1.length ≤ 140737488355328) := hid (Nat.le_trans (rd_len _ _) HL2.out)
  have HX3 := hid ((HV2.out.2.2.2.block w.heap.size (lt_of_block HX2.out) (fun e => by have e9 : w.heap.size = R ∨ w.heap.size = B := e; have := HBE.out; omega)).trans HX2.out)
  have HK3 := hid (HK2.out.trans HV2.out.2.2.2)
  have HE2_3 : Hid (EncN (fun j => B < j ∧ j < w3.heap.size) w3 (.list sTable) [v2] (rdF (.list sTable) (rdF .int (rdF .int st).2).2).1) := hid (EncN.mono (fun j hj => ⟨Nat.lt_of_lt_of_le (lt_of_block HB2.out) hj.1, hj.2⟩) _ HV2.out.1)
  have HE0_3 : Hid (EncN (fun j => B < j ∧ j < w3.heap.size) w3 .int [v0] (rdF .int st).1) := hid (EncN.mono (fun j hj => ⟨hj.1, Nat.lt_of_lt_of_le hj.2 HV2.out.2.2.2.size⟩) _ (EncN.keep HV2.out.2.2.2 (fun j hj e => by have e9 : j = R ∨ j = B := e; have := hj.1; omega) _ HE0_2.out))
  have HE1_3 : Hid (EncN (fun j => B < j ∧ j < w3.heap.size) w3 .int [v1] (rdF .int (rdF .int st).2).1) := hid (EncN.mono (fun j hj => ⟨hj.1, Nat.lt_of_lt_of_le hj.2 HV2.out.2.2.2.size⟩) _ (EncN.keep HV2.out.2.2.2 (fun j hj e => by have e9 : j = R ∨ j = B := e; have := hj.1; omega) _ HE1_2.out))
  have y0 := (one_cell HX3.out).1
  have CQ := hid (rlist_Index 3 HR3.out HL3.out HB3.out rfl hRB)
  go_upto_region 5 with (first | (go_at_call 82; refine CQ.out.mono ?_; rintro en w4 ⟨rfl, v3, hv⟩; have HV3 := hid hv; clear hv))
  clear CQ y0
  have HB4 : Hid (w4.heap[B]? = some (.cells #[v0, v1, v2, v3] 44 (0, 0))) := HV3.out.2.1
  have HR4 : Hid (RAt w4 R (rdF (.list sIndex) (rdF (.list sTable) (rdF .int (rdF .int st).2).2).2).2.1 (rdF (.list sIndex) (rdF (.list sTable) (rdF .int (rdF .int st).2).2).2).2.2) := HV3.out.2.2.1
  have HL4 : Hid ((rdF (.list sIndex) (rdF (.list sTable) (rdF .int (rdF .int st).2).2).2).2.1.length ≤ 140737488355328) := hid (Nat.le_trans (rd_len _ _) HL3.out)
  have HX4 := hid ((HV3.out.2.2.2.block w.heap.size (lt_of_block HX3.out) (fun e => by have e9 : w.heap.size = R ∨ w.heap.size = B := e; have := HBE.out; omega)).trans HX3.out)
  have HK4 := hid (HK3.out.trans HV3.out.2.2.2)
  have HE3_4 : Hid (EncN (fun j => B < j ∧ j < w4.heap.size) w4 (.list sIndex) [v3] (rdF (.list sIndex) (rdF (.list sTable) (rdF .int (rdF .int st).2).2).2).1) := hid (EncN.mono (fun j hj => ⟨Nat.lt_of_lt_of_le (lt_of_block HB3.out) hj.1, hj.2⟩) _ HV3.out.1)
  have HE0_4 : Hid (EncN (fun j => B < j ∧ j < w4.heap.size) w4 .int [v0] (rdF .int st).1) := hid (EncN.mono (fun j hj => ⟨hj.1, Nat.lt_of_lt_of_le hj.2 HV3.out.2.2.2.size⟩) _ (EncN.keep HV3.out.2.2.2 (fun j hj e => by have e9 : j = R ∨ j = B := e; have := hj.1; omega) _ HE0_3.out))
  have HE1_4 : Hid (EncN (fun j => B < j ∧ j < w4.heap.size) w4 .int [v1] (rdF .int (rdF .int st).2).1) := hid (EncN.mono (fun j hj => ⟨hj.1, Nat.lt_of_lt_of_le hj.2 HV3.out.2.2.2.size⟩) _ (EncN.keep HV3.out.2.2.2 (fun j hj e => by have e9 : j = R ∨ j = B := e; have := hj.1; omega) _ HE1_3.out))
  have HE2_4 : Hid (EncN (fun j => B < j ∧ j < w4.heap.size) w4 (.list sTable) [v2] (rdF (.list sTable) (rdF .int (rdF .int st).2).2).1) := hid (EncN.mono (fun j hj => ⟨hj.1, Nat.lt_of_lt_of_le hj.2 HV3.out.2.2.2.size⟩) _ (EncN.keep HV3.out.2.2.2 (fun j hj e => by have e9 : j = R ∨ j = B := e; have := hj.1; omega) _ HE2_3.out))
  obtain ⟨y0, rfl⟩ := form_int (EncN.enc _ HE0_4.out)
  obtain ⟨y1, rfl⟩ := form_int (EncN.enc _ HE1_4.out)
  obtain ⟨y2, j2, c2, rfl⟩ := form_list (EncN.enc _ HE2_4.out)
  obtain ⟨y3, j3, c3, rfl⟩ := form_list (EncN.enc _ HE3_4.out)
  obtain ⟨q0, r0⟩ := row_at (cs := [(.int .i64 y0), (.int .i64 y1), (.slice y2 j2 c2), (.slice y3 j3 c3)]) HB4.out (i := 0) rfl
  obtain ⟨q1, r1⟩ := row_at (cs := [(.int .i64 y0), (.int .i64 y1), (.slice y2 j2 c2), (.slice y3 j3 c3)]) HB4.out (i := 1) rfl
  obtain ⟨q2, r2⟩ := row_at (cs := [(.int .i64 y0), (.int .i64 y1), (.slice y2 j2 c2), (.slice y3 j3 c3)]) HB4.out (i := 2) rfl
  obtain ⟨q3, r3⟩ := row_at (cs := [(.int .i64 y0), (.int .i64 y1), (.slice y2 j2 c2), (.slice y3 j3 c3)]) HB4.out (i := 3) rfl
  have hs0 : w4.heap[B]? = some (.cells ([(.int .i64 y0), (.int .i64 y1), (.slice y2 j2 c2), (.slice y3 j3 c3)] : List Value).toArray 44 (0, 0)) := HB4.out
  have hs1 := row_put hs0 0 (.int .i64 y0)
  have hs2 := row_put hs1 1 (.int .i64 y1)
  have hs3 := row_put hs2 2 (.slice y2 j2 c2)
  have hs4 := row_put hs3 3 (.slice y3 j3 c3)
  have hks : Keep (fun j => j = B) w4 ((((w4.setCell ⟨B, 0, none⟩ (.int .i64 y0)).setCell ⟨B, 1, none⟩ (.int .i64 y1)).setCell ⟨B, 2, none⟩ (.slice y2 j2 c2)).setCell ⟨B, 3, none⟩ (.slice y3 j3 c3)) := ((((Keep.refl (fun j => j = B) _).trans (Keep.set (X := fun j => j = B) _ ⟨B, 0, none⟩ (.int .i64 y0) rfl)).trans (Keep.set (X := fun j => j = B) _ ⟨B, 1, none⟩ (.int .i64 y1) rfl)).trans (Keep.set (X := fun j => j = B) _ ⟨B, 2, none⟩ (.slice y2 j2 c2) rfl)).trans (Keep.set (X := fun j => j = B) _ ⟨B, 3, none⟩ (.slice y3 j3 c3) rfl)
  have HSF : Hid (((((w4.setCell ⟨B, 0, none⟩ (.int .i64 y0)).setCell ⟨B, 1, none⟩ (.int .i64 y1)).setCell ⟨B, 2, none⟩ (.slice y2 j2 c2)).setCell ⟨B, 3, none⟩ (.slice y3 j3 c3)).heap[B]? = some (.cells #[(.int .i64 y0), (.int .i64 y1), (.slice y2 j2 c2), (.slice y3 j3 c3)] 44 (0, 0))) := hs4
  have HKS := hid hks
  clear hks hs0 hs1 hs2 hs3 hs4
  go_wp2_with fail
  refine bodyPost_ret (results_cell_row rfl _ _ B 44 _ (0, 0) _ rfl HSF.out Try.underlying44 rfl (by kernel_rfl)) rfl ?_
  have hfin : ∀ (s : Sh) (cs : List Value) (bs : List UInt8), EncN (fun j => B < j ∧ j < w4.heap.size) w4 s cs bs → EncN (fun j => w.heap.size ≤ j ∧ j < ((((w4.setCell ⟨B, 0, none⟩ (.int .i64 y0)).setCell ⟨B, 1, none⟩ (.int .i64 y1)).setCell ⟨B, 2, none⟩ (.slice y2 j2 c2)).setCell ⟨B, 3, none⟩ (.slice y3 j3 c3)).heap.size) ((((w4.setCell ⟨B, 0, none⟩ (.int .i64 y0)).setCell ⟨B, 1, none⟩ (.int .i64 y1)).setCell ⟨B, 2, none⟩ (.slice y2 j2 c2)).setCell ⟨B, 3, none⟩ (.slice y3 j3 c3)) s cs bs := fun s cs bs h => EncN.mono (fun j hj => ⟨by have := HBE.out; omega, Nat.lt_of_lt_of_le hj.2 HKS.out.size⟩) s (EncN.keep HKS.out (fun j hj e => by have e9 : j = B := e; have := hj.1; omega) s h)
  refine ⟨[(.int .i64 y0), (.int .i64 y1), (.slice y2 j2 c2), (.slice y3 j3 c3)], rfl, ?_, HR4.out.keepK HKS.out (fun j e => by have e9 : j = B := e; omega), ?_⟩
  · exact ⟨[(.int .i64 y0)], [(.int .i64 y1), (.slice y2 j2 c2), (.slice y3 j3 c3)], _, _, rfl, rfl, hfin _ _ _ HE0_4.out, ⟨[(.int .i64 y1)], [(.slice y2 j2 c2), (.slice y3 j3 c3)], _, _, rfl, rfl, hfin _ _ _ HE1_4.out, ⟨[(.slice y2 j2 c2)], [(.slice y3 j3 c3)], _, _, rfl, rfl, hfin _ _ _ HE2_4.out, ⟨[(.slice y3 j3 c3)], [], _, _, rfl, rfl, hfin _ _ _ HE3_4.out, ⟨rfl, rfl⟩⟩⟩⟩⟩
  · exact (Keep.of_below HBW.out).trans2 (HK4.out.trans (HKS.out.mono (fun j _ e => .inr e))) (fun j e => by rcases e with e | e <;> first | exact .inl e | exact .inr (by have := HBE.out; omega))

end Go.Proofs.Ytiblambiebojmaa

set_option linter.unusedVariables false
set_option linter.unusedSimpArgs false
set_option maxRecDepth 100000
namespace Go.Proofs.Ytiblambiebojmaa
open Go.RowKit Go.Deep

theorem results_cell2 {P : Program} {fn : Func} {p u : Tmp} {ty : TypeId} (h : fn.results = #[.cell p ty, .tmp u]) (tmps : Array Value) (w : World) (g : Nat) (t : TypeId) (cs : Array Value) (fr : Nat × Nat) (d : TypeDesc)
    (hp : tmps.getD p undef = .pointer (some ⟨g, 0, none⟩)) (hg : w.heap[g]? = some (.cells cs t fr))
    (hu : P.underlying ty = some d) (hd : (match d with | .struct _ | .array _ _ => true | _ => false) = true) (hi : (P.info? ty).map (·.size) = some cs.size) :
    (results fn tmps).run P w = .ok (.tuple #[.agg cs, tmps.getD u undef]) w := by
  have hp' : tmps[p]?.getD undef = .pointer (some ⟨g, 0, none⟩) := by simpa using hp
  simp [results, h, hp', asAddr, run_loadVar_row w g t ty cs fr d hg hu hd hi]

/-- What stands behind the reading of a whole Catalog. -/
def AlCatalog (R : Nat) (w : World) (st : Rst) (en : Ending) (w' : World) : Prop := ∃ cs : List Value, en = .returned (.tuple #[.agg cs.toArray, .int .i64 (endS (rdF sCatalog st).2.1 (rdF sCatalog st).2.2)]) ∧ ((endS (rdF sCatalog st).2.1 (rdF sCatalog st).2.2) = 0 → EncN (fun j => w.heap.size ≤ j ∧ j < w'.heap.size) w' sCatalog cs (rdF sCatalog st).1) ∧ ((endS (rdF sCatalog st).2.1 (rdF sCatalog st).2.2) ≠ 0 → cs = [.int .i64 0, .int .i64 0, .slice none 0 0, .slice none 0 0]) ∧ Keep (fun j => j = R) w w'
set_option maxHeartbeats 8000000 in
theorem aloneCatalog_any {w : World} {R : Nat} {st : Rst} (h : RAt w R st.1 st.2) (hl : st.1.length ≤ 140737488355328) :
    Calls Try.prog 42 #[.agg #[.pointer (some ⟨R, 0, none⟩)], (.func (.func 43) #[.agg #[.pointer (some ⟨R, 0, none⟩)]] #[])] w (AlCatalog R w st) := by
  have hb : Below w.heap.size w ((w.alloc (.cells #[.pointer (some ⟨R, 0, none⟩)] 105)).alloc (.cells #[.int .i64 0, .int .i64 0, .slice none 0 0, .slice none 0 0] 44)) := ((Below.refl _ _).alloc (Nat.le_refl _) _).alloc (by simp) _
  have hz := (Below.heap_alloc (w.alloc (.cells #[.pointer (some ⟨R, 0, none⟩)] 105)) (.cells #[.int .i64 0, .int .i64 0, .slice none 0 0, .slice none 0 0] 44) w.heap.size (by simp)).trans (heap_alloc_new w (.cells #[.pointer (some ⟨R, 0, none⟩)] 105))
  have hB := heap_alloc2_new w (.cells #[.pointer (some ⟨R, 0, none⟩)] 105) (.cells #[.int .i64 0, .int .i64 0, .slice none 0 0, .slice none 0 0] 44)
  obtain ⟨B, hBe⟩ : ∃ B, B = w.heap.size + 1 := ⟨_, rfl⟩
  have hRw := h.lt
  have hRB : R < B := by omega
  have HR0 := hid (h.old hb)
  rw [← hBe] at hB
  have HB0 := hid hB
  have HX0 := hid hz
  have HBW := hid hb
  have HL0 := hid hl
  clear h hb hz hB hl
  go_enter Try.func42, Try.ntmps42
  go_upto_region 1 with fail
  generalize (w.alloc (.cells #[.pointer (some ⟨R, 0, none⟩)] 105)).alloc (.cells #[.int .i64 0, .int .i64 0, .slice none 0 0, .slice none 0 0] 44) = w0 at *
  try rw [← hBe]
  have HBE := hid hBe
  clear hBe
  have CQ := hid (rCatalog_any HR0.out HL0.out)
  go_upto_region 2 with (first | (go_at_call 43; refine CQ.out.mono ?_; rintro en w1 ⟨mc, rfl, hv⟩; obtain ⟨u0, u1, u2, u3, b0, b1, b2, b3, rfl, _, e0, e1, e2, e3⟩ := Catalog_cells (EncN.enc _ hv.1); obtain ⟨y0, rfl⟩ := form_int e0; obtain ⟨y1, rfl⟩ := form_int e1; obtain ⟨y2, j2, c2, rfl⟩ := form_list e2; obtain ⟨y3, j3, c3, rfl⟩ := form_list e3; clear e0 e1 e2 e3; have HV := hid hv; clear hv))
  have hb2 : Below w1.heap.size w1 (w1.alloc (.cells #[(.int .i64 y0), (.int .i64 y1), (.slice y2 j2 c2), (.slice y3 j3 c3)] 44)) := (Below.refl _ _).alloc (Nat.le_refl _) _
  have hx2 := heap_alloc_new w1 (.cells #[(.int .i64 y0), (.int .i64 y1), (.slice y2 j2 c2), (.slice y3 j3 c3)] 44)
  have HV2 := hid (EncN.mono (fun j hj => (⟨hj.1, Nat.lt_of_lt_of_le hj.2 hb2.size⟩ : w0.heap.size ≤ j ∧ j < (w1.alloc (.cells #[(.int .i64 y0), (.int .i64 y1), (.slice y2 j2 c2), (.slice y3 j3 c3)] 44)).heap.size)) _ (EncN.keep (Keep.of_below (X := fun _ => False) hb2) (fun _ _ e => e) _ HV.out.1))
  have HR2 := hid (HV.out.2.1.old hb2)
  have HB2 : Hid ((w1.alloc (.cells #[(.int .i64 y0), (.int .i64 y1), (.slice y2 j2 c2), (.slice y3 j3 c3)] 44)).heap[B]? = some (.cells ([.int .i64 0, .int .i64 0, .slice none 0 0, .slice none 0 0] : List Value).toArray 44 (0, 0))) := hid ((hb2.block B (Nat.lt_of_lt_of_le (lt_of_block HB0.out) HV.out.2.2.size)).trans ((HV.out.2.2.block B (lt_of_block HB0.out) (fun e => by have e9 : B = R := e; omega)).trans HB0.out))
  have HX2 := hid ((hb2.block w.heap.size (Nat.lt_of_lt_of_le (lt_of_block HX0.out) HV.out.2.2.size)).trans ((HV.out.2.2.block w.heap.size (lt_of_block HX0.out) (fun e => by have e9 : w.heap.size = R := e; omega)).trans HX0.out))
  have HXX : Hid ((w1.alloc (.cells #[(.int .i64 y0), (.int .i64 y1), (.slice y2 j2 c2), (.slice y3 j3 c3)] 44)).heap[w1.heap.size]? = some (.cells ([(.int .i64 y0), (.int .i64 y1), (.slice y2 j2 c2), (.slice y3 j3 c3)] : List Value).toArray 44 (0, 0))) := hid hx2
  have HK2 : Hid (Keep (fun j => j = R) w0 (w1.alloc (.cells #[(.int .i64 y0), (.int .i64 y1), (.slice y2 j2 c2), (.slice y3 j3 c3)] 44))) := hid (HV.out.2.2.trans (Keep.of_below hb2))
  have HS1 : Hid (B < w1.heap.size) := hid (Nat.lt_of_lt_of_le (lt_of_block HB0.out) HV.out.2.2.size)
  clear hb2 hx2 CQ
  obtain ⟨X, hX⟩ : ∃ X, X = w1.heap.size := ⟨_, rfl⟩
  rw [← hX] at HXX HS1
  generalize w1.alloc (.cells #[(.int .i64 y0), (.int .i64 y1), (.slice y2 j2 c2), (.slice y3 j3 c3)] 44) = w2 at *
  try rw [← hX]
  clear hX
  obtain ⟨ev, hev⟩ : ∃ ev, ev = (endS (rdF sCatalog st).2.1 (rdF sCatalog st).2.2) := ⟨_, rfl⟩
  have CE : Hid (Calls Try.prog 77 #[.pointer (some ⟨R, 0, none⟩)] w2 (fun en w' => en = .returned (.int .i64 ev) ∧ w2 = w')) := hid (by rw [hev]; exact endR_any w2 R _ _ HR2.out)
  have HEV := hid hev
  clear hev
  have x0 := (one_cell HX2.out).1
  by_cases h0 : ev = 0
  · subst h0
    obtain ⟨p0, m0⟩ := row_at HXX.out (i := 0) rfl
    obtain ⟨p1, m1⟩ := row_at HXX.out (i := 1) rfl
    obtain ⟨p2, m2⟩ := row_at HXX.out (i := 2) rfl
    obtain ⟨p3, m3⟩ := row_at HXX.out (i := 3) rfl
    obtain ⟨q0, r0⟩ := row_at HB2.out (i := 0) rfl
    obtain ⟨q1, r1⟩ := row_at HB2.out (i := 1) rfl
    obtain ⟨q2, r2⟩ := row_at HB2.out (i := 2) rfl
    obtain ⟨q3, r3⟩ := row_at HB2.out (i := 3) rfl
    have hs0 := HB2.out
    have hs1 := row_put hs0 0 (.int .i64 y0)
    have hs2 := row_put hs1 1 (.int .i64 y1)
    have hs3 := row_put hs2 2 (.slice y2 j2 c2)
    have hs4 := row_put hs3 3 (.slice y3 j3 c3)
    have HSF : Hid (((((w2.setCell ⟨B, 0, none⟩ (.int .i64 y0)).setCell ⟨B, 1, none⟩ (.int .i64 y1)).setCell ⟨B, 2, none⟩ (.slice y2 j2 c2)).setCell ⟨B, 3, none⟩ (.slice y3 j3 c3)).heap[B]? = some (.cells #[(.int .i64 y0), (.int .i64 y1), (.slice y2 j2 c2), (.slice y3 j3 c3)] 44 (0, 0))) := hs4
    have HKS : Hid (Keep (fun j => j = B) w2 ((((w2.setCell ⟨B, 0, none⟩ (.int .i64 y0)).setCell ⟨B, 1, none⟩ (.int .i64 y1)).setCell ⟨B, 2, none⟩ (.slice y2 j2 c2)).setCell ⟨B, 3, none⟩ (.slice y3 j3 c3))) := hid (((((Keep.refl (fun j => j = B) _).trans (Keep.set (X := fun j => j = B) _ ⟨B, 0, none⟩ (.int .i64 y0) rfl)).trans (Keep.set (X := fun j => j = B) _ ⟨B, 1, none⟩ (.int .i64 y1) rfl)).trans (Keep.set (X := fun j => j = B) _ ⟨B, 2, none⟩ (.slice y2 j2 c2) rfl)).trans (Keep.set (X := fun j => j = B) _ ⟨B, 3, none⟩ (.slice y3 j3 c3) rfl))
    clear hs0 hs1 hs2 hs3 hs4
    go_wp2_with (first | (go_at_call 77; refine CE.out.mono ?_; rintro en w3 ⟨rfl, rfl⟩))
    refine bodyPost_ret (results_cell2 rfl _ _ B 44 _ (0, 0) _ rfl HSF.out Try.underlying44 rfl (by kernel_rfl)) rfl ?_
    refine ⟨[(.int .i64 y0), (.int .i64 y1), (.slice y2 j2 c2), (.slice y3 j3 c3)], by rw [← HEV.out]; rfl, fun _ => EncN.mono (fun j hj => ⟨Nat.le_trans HBW.out.size hj.1, Nat.lt_of_lt_of_le hj.2 HKS.out.size⟩) _ (EncN.keep HKS.out (fun j hj e => by have e9 : j = B := e; have a9 := lt_of_block HB0.out; have := hj.1; omega) _ HV2.out), fun h9 => absurd HEV.out.symm h9, ?_⟩
    exact ((Keep.of_below HBW.out).trans HK2.out).trans2 HKS.out (fun j e => .inr (by have e9 : j = B := e; have := HBE.out; omega))
  · have hbe : (ev != 0) = true := by simp [h0]
    have hb3 : Below w2.heap.size w2 (w2.alloc (.cells #[.int .i64 0, .int .i64 0, .slice none 0 0, .slice none 0 0] 44)) := (Below.refl _ _).alloc (Nat.le_refl _) _
    have hx3 : (w2.alloc (.cells #[.int .i64 0, .int .i64 0, .slice none 0 0, .slice none 0 0] 44)).heap[w2.heap.size]? = some (.cells ([.int .i64 0, .int .i64 0, .slice none 0 0, .slice none 0 0] : List Value).toArray 44 (0, 0)) := heap_alloc_new w2 (.cells #[.int .i64 0, .int .i64 0, .slice none 0 0, .slice none 0 0] 44)
    have hB3 := (hb3.block B (lt_of_block HB2.out)).trans HB2.out
    have HB3 := hid hb3
    obtain ⟨p0, m0⟩ := row_at hx3 (i := 0) rfl
    obtain ⟨p1, m1⟩ := row_at hx3 (i := 1) rfl
    obtain ⟨p2, m2⟩ := row_at hx3 (i := 2) rfl
    obtain ⟨p3, m3⟩ := row_at hx3 (i := 3) rfl
    obtain ⟨q0, r0⟩ := row_at hB3 (i := 0) rfl
    obtain ⟨q1, r1⟩ := row_at hB3 (i := 1) rfl
    obtain ⟨q2, r2⟩ := row_at hB3 (i := 2) rfl
    obtain ⟨q3, r3⟩ := row_at hB3 (i := 3) rfl
    have hs0 := hB3
    have hs1 := row_put hs0 0 (.int .i64 0)
    have hs2 := row_put hs1 1 (.int .i64 0)
    have hs3 := row_put hs2 2 (.slice none 0 0)
    have hs4 := row_put hs3 3 (.slice none 0 0)
    have HSF : Hid ((((((w2.alloc (.cells #[.int .i64 0, .int .i64 0, .slice none 0 0, .slice none 0 0] 44)).setCell ⟨B, 0, none⟩ (.int .i64 0)).setCell ⟨B, 1, none⟩ (.int .i64 0)).setCell ⟨B, 2, none⟩ (.slice none 0 0)).setCell ⟨B, 3, none⟩ (.slice none 0 0)).heap[B]? = some (.cells #[.int .i64 0, .int .i64 0, .slice none 0 0, .slice none 0 0] 44 (0, 0))) := hs4
    have HKS : Hid (Keep (fun j => j = B) (w2.alloc (.cells #[.int .i64 0, .int .i64 0, .slice none 0 0, .slice none 0 0] 44)) (((((w2.alloc (.cells #[.int .i64 0, .int .i64 0, .slice none 0 0, .slice none 0 0] 44)).setCell ⟨B, 0, none⟩ (.int .i64 0)).setCell ⟨B, 1, none⟩ (.int .i64 0)).setCell ⟨B, 2, none⟩ (.slice none 0 0)).setCell ⟨B, 3, none⟩ (.slice none 0 0))) := hid (((((Keep.refl (fun j => j = B) _).trans (Keep.set (X := fun j => j = B) _ ⟨B, 0, none⟩ (.int .i64 0) rfl)).trans (Keep.set (X := fun j => j = B) _ ⟨B, 1, none⟩ (.int .i64 0) rfl)).trans (Keep.set (X := fun j => j = B) _ ⟨B, 2, none⟩ (.slice none 0 0) rfl)).trans (Keep.set (X := fun j => j = B) _ ⟨B, 3, none⟩ (.slice none 0 0) rfl))
    clear hb3 hx3 hB3 hs0 hs1 hs2 hs3 hs4
    go_wp2_with (first | (go_at_call 77; refine CE.out.mono ?_; rintro en w3 ⟨rfl, rfl⟩))
    refine bodyPost_ret (results_cell2 rfl _ _ B 44 _ (0, 0) _ rfl HSF.out Try.underlying44 rfl (by kernel_rfl)) rfl ?_
    refine ⟨[.int .i64 0, .int .i64 0, .slice none 0 0, .slice none 0 0], by rw [← HEV.out]; rfl, fun h9 => absurd (HEV.out.trans h9) h0, fun _ => rfl, ?_⟩
    exact (((Keep.of_below HBW.out).trans HK2.out).trans (Keep.of_below HB3.out)).trans2 HKS.out (fun j e => .inr (by have e9 : j = B := e; have := HBE.out; omega))

theorem AlCatalog_forms {E : Int} {N : Nat → Prop} {w : World} {cs : List Value} {bs : List UInt8} (h1 : E = 0 → EncN N w sCatalog cs bs) (h2 : E ≠ 0 → cs = [.int .i64 0, .int .i64 0, .slice none 0 0, .slice none 0 0]) : ∃ (y0 : Int) (y1 : Int) (y2 : Option Addr) (j2 : Nat) (c2 : Nat) (y3 : Option Addr) (j3 : Nat) (c3 : Nat), cs = [.int .i64 y0, .int .i64 y1, .slice y2 j2 c2, .slice y3 j3 c3] := by
  by_cases h : E = 0
  · obtain ⟨u0, u1, u2, u3, b0, b1, b2, b3, rfl, _, e0, e1, e2, e3⟩ := Catalog_cells (EncN.enc _ (h1 h))
    obtain ⟨y0, rfl⟩ := form_int e0
    obtain ⟨y1, rfl⟩ := form_int e1
    obtain ⟨y2, j2, c2, rfl⟩ := form_list e2
    obtain ⟨y3, j3, c3, rfl⟩ := form_list e3
    exact ⟨y0, y1, y2, j2, c2, y3, j3, c3, rfl⟩
  · exact ⟨_, _, _, _, _, _, _, _, h2 h⟩
/-- What TakeCatalog answers. -/
def TkCatalog (w : World) (l : List UInt8) (en : Ending) (w' : World) : Prop := ∃ cs : List Value, en = .returned (.tuple #[.agg cs.toArray, .int .i64 (endS (rdF sCatalog (l, 0)).2.1 (rdF sCatalog (l, 0)).2.2)]) ∧ ((endS (rdF sCatalog (l, 0)).2.1 (rdF sCatalog (l, 0)).2.2) = 0 → EncN (fun j => w.heap.size ≤ j ∧ j < w'.heap.size) w' sCatalog cs (rdF sCatalog (l, 0)).1) ∧ ((endS (rdF sCatalog (l, 0)).2.1 (rdF sCatalog (l, 0)).2.2) ≠ 0 → cs = [.int .i64 0, .int .i64 0, .slice none 0 0, .slice none 0 0]) ∧ Below w.heap.size w w'
set_option maxHeartbeats 8000000 in
theorem takeCatalog_any (x : Value) (l : List UInt8) (w : World) (hx : Rd w x l) (hl : l.length ≤ 140737488355328) : Calls Try.prog 19 #[x] w (TkCatalog w l) := by
  have hb : Below w.heap.size w (w.alloc (.cells #[.int .i64 0, .int .i64 0, .slice none 0 0, .slice none 0 0] 44)) := (Below.refl _ _).alloc (Nat.le_refl _) _
  have hB : (w.alloc (.cells #[.int .i64 0, .int .i64 0, .slice none 0 0, .slice none 0 0] 44)).heap[w.heap.size]? = some (.cells ([.int .i64 0, .int .i64 0, .slice none 0 0, .slice none 0 0] : List Value).toArray 44 (0, 0)) := heap_alloc_new w (.cells #[.int .i64 0, .int .i64 0, .slice none 0 0, .slice none 0 0] 44)
  have CN := hid (new_any (w.alloc (.cells #[.int .i64 0, .int .i64 0, .slice none 0 0, .slice none 0 0] 44)) x l (hx.old hb) hl)
  have HB := hid hB
  have HBW := hid hb
  have HL := hid hl
  clear hb hB hx hl
  go_enter Try.func19, Try.ntmps19
  go_upto_region 1 with fail
  generalize w.alloc (.cells #[.int .i64 0, .int .i64 0, .slice none 0 0, .slice none 0 0] 44) = w1 at *
  go_upto_region 2 with (first | (go_at_call 41; refine CN.out.mono ?_; rintro en w2 ⟨R, rfl, hR1, hr, hb2⟩; have HR := hid hr; have HRB := hid (Nat.lt_of_lt_of_le (lt_of_block HB.out) hR1); have HB2 := hid ((hb2.block _ (lt_of_block HB.out)).trans HB.out); have HW2 := hid hb2; clear hr hR1 hb2))
  have hb3 : Below w2.heap.size w2 (w2.alloc (.cells #[.pointer (some ⟨R, 0, none⟩)] 105)) := (Below.refl _ _).alloc (Nat.le_refl _) _
  have HX3 := hid (heap_alloc_new w2 (.cells #[.pointer (some ⟨R, 0, none⟩)] 105))
  have HR3 := hid (HR.out.old hb3)
  have HB3 := hid ((hb3.block _ (lt_of_block HB2.out)).trans HB2.out)
  have HW3 := hid (HW2.out.trans (hb3.mono HW2.out.size))
  clear hb3
  obtain ⟨X, hX⟩ : ∃ X, X = w2.heap.size := ⟨_, rfl⟩
  rw [← hX] at HX3
  generalize w2.alloc (.cells #[.pointer (some ⟨R, 0, none⟩)] 105) = w3 at *
  try rw [← hX]
  clear hX
  have CA := hid (aloneCatalog_any (st := (l, 0)) HR3.out HL.out)
  have z0 := (one_cell HX3.out).1
  go_wp2_with (first | (go_at_call 42; refine CA.out.mono ?_; rintro en w4 ⟨cs, rfl, h1, h2, hk⟩; obtain ⟨y0, y1, y2, j2, c2, y3, j3, c3, rfl⟩ := AlCatalog_forms h1 h2; have H1 := hid h1; have H2 := hid h2; have HK := hid hk; have hB4 := (hk.block _ (lt_of_block HB3.out) (fun e => by have e9 : w.heap.size = R := e; have := HRB.out; omega)).trans HB3.out; obtain ⟨q0, r0⟩ := row_at hB4 (i := 0) rfl; obtain ⟨q1, r1⟩ := row_at hB4 (i := 1) rfl; obtain ⟨q2, r2⟩ := row_at hB4 (i := 2) rfl; obtain ⟨q3, r3⟩ := row_at hB4 (i := 3) rfl; have HB4 := hid hB4; clear h1 h2 hk hB4))
  have hs0 := HB4.out
  have hs1 := row_put hs0 0 (.int .i64 y0)
  have hs2 := row_put hs1 1 (.int .i64 y1)
  have hs3 := row_put hs2 2 (.slice y2 j2 c2)
  have hs4 := row_put hs3 3 (.slice y3 j3 c3)
  have HSF : Hid (((((w4.setCell ⟨w.heap.size, 0, none⟩ (.int .i64 y0)).setCell ⟨w.heap.size, 1, none⟩ (.int .i64 y1)).setCell ⟨w.heap.size, 2, none⟩ (.slice y2 j2 c2)).setCell ⟨w.heap.size, 3, none⟩ (.slice y3 j3 c3)).heap[w.heap.size]? = some (.cells #[.int .i64 y0, .int .i64 y1, .slice y2 j2 c2, .slice y3 j3 c3] 44 (0, 0))) := hs4
  have HKS : Hid (Keep (fun j => j = w.heap.size) w4 ((((w4.setCell ⟨w.heap.size, 0, none⟩ (.int .i64 y0)).setCell ⟨w.heap.size, 1, none⟩ (.int .i64 y1)).setCell ⟨w.heap.size, 2, none⟩ (.slice y2 j2 c2)).setCell ⟨w.heap.size, 3, none⟩ (.slice y3 j3 c3))) := hid (((((Keep.refl (fun j => j = w.heap.size) _).trans (Keep.set (X := fun j => j = w.heap.size) _ ⟨w.heap.size, 0, none⟩ (.int .i64 y0) rfl)).trans (Keep.set (X := fun j => j = w.heap.size) _ ⟨w.heap.size, 1, none⟩ (.int .i64 y1) rfl)).trans (Keep.set (X := fun j => j = w.heap.size) _ ⟨w.heap.size, 2, none⟩ (.slice y2 j2 c2) rfl)).trans (Keep.set (X := fun j => j = w.heap.size) _ ⟨w.heap.size, 3, none⟩ (.slice y3 j3 c3) rfl))
  clear hs0 hs1 hs2 hs3 hs4
  refine bodyPost_ret (results_cell2 rfl _ _ w.heap.size 44 _ (0, 0) _ rfl HSF.out Try.underlying44 rfl (by kernel_rfl)) rfl ?_
  have a1 := HBW.out.size
  have a2 := lt_of_block HB.out
  have a3 := HW3.out.size
  refine ⟨_, rfl, fun h0 => EncN.mono (fun j hj => ⟨by have := hj.1; omega, Nat.lt_of_lt_of_le hj.2 HKS.out.size⟩) _ (EncN.keep HKS.out (fun j hj e => by have e9 : j = w.heap.size := e; have := hj.1; omega) _ (H1.out h0)), H2.out, ?_⟩
  exact (((Keep.of_below (X := fun _ => False) HBW.out).trans (Keep.of_below (X := fun _ => False) (HW3.out.mono (Nat.le_refl _)))).trans2 HK.out (fun j e => .inr (by have e9 : j = R := e; have := HRB.out; omega))).trans2 HKS.out (fun j e => .inr (by have e9 : j = w.heap.size := e; omega)) |>.below (Nat.le_refl _) (fun k e => e.elim)

end Go.Proofs.Ytiblambiebojmaa

set_option linter.unusedVariables false
set_option linter.unusedSimpArgs false
set_option maxRecDepth 100000
namespace Go.Proofs.Ytiblambiebojmaa
open Go.RowKit Go.Deep Go.ChangeShapes Go.WideShapes Go.ChangeAt

set_option maxHeartbeats 1000000 in
theorem copyBw_any (w : World) (x : Value) (l : List UInt8) (h : Rd w x l) (hl : l.length ≤ 140737488355328) :
    Calls Try.prog 20 #[x] w (Gives 5 w l) := by
  have HR := hid h
  obtain ⟨ao, c, rfl, -⟩ := h
  have hown : w.ownsRow w.heap.size 5 1 (.slice none 0 0) 0 [] := World.ownsRow_nil _ _ _ _
  have HR2 := HR.out
  go_enter Try.func20, Try.ntmps20
  go_wp2_with (first
    | (at_builtin; refine wp_app rfl _ _ 23 rfl w.heap.size 5 Try.underlying23 (by kernel_rfl) _ _ _ rfl hown _ l rfl HR2 ?c1 ?c2 ?_))
  case c1 => omega
  case c2 => exact Nat.le_refl _
  intro v' w1 hown' hgrow
  have hb : Below w.heap.size w w1 := (Below.refl _ _).grown hgrow (Nat.le_refl _) (fun k hk => by simp [Value.ownBlock] at hk)
  clear hgrow hown HR2
  go_wp2_with fail
  go_ret
  exact ⟨_, rfl, by simpa using hown', hb⟩

/-- A byte that came in. -/
theorem byte_in {z : Int} (h : (Lit.int .u8 z).wf = true) : ∃ m : UInt8, Value.int .u8 z = bv m := by
  have := bounds_u8 h
  refine ⟨UInt8.ofNat z.toNat, ?_⟩
  unfold bv
  rw [UInt8.toNat_ofNat']
  congr 1
  omega

theorem four_cells9 {w : World} {b : Nat} {p q r s : Value} {t : TypeId} (h : w.heap[b]? = some (.cells #[p, q, r, s] t (0, 0))) : w.cell? ⟨b, 0, none⟩ = some p ∧ w.cell? ⟨b, 1, none⟩ = some q ∧ w.cell? ⟨b, 2, none⟩ = some r ∧ w.cell? ⟨b, 3, none⟩ = some s :=
  ⟨by simp [World.cell?, h], by simp [World.cell?, h], by simp [World.cell?, h], by simp [World.cell?, h]⟩

/-- A catalog that was read, in memory. -/
theorem tk_back {w : World} {cs : List Value} {x : Value} {BX : List UInt8} (e0 : Enc w sCatalog cs BX) (hl : BX.length ≤ 5000) (r : List UInt8) : rdF sCatalog (BX ++ r, 0) = (BX, r, 0) := rd_back sCatalog r (by decide) e0 hl

/-- Two catalogs with the same bytes are the same to the helper. -/
theorem samecat_any {w : World} {c1 c2 : List Value} {BX : List UInt8} (h1 : Enc w sCatalog c1 BX) (h2 : Enc w sCatalog c2 BX) (hl : BX.length ≤ 5000) : Calls Try.prog 21 #[.agg c1.toArray, .agg c2.toArray] w (fun e w' => e = .returned (.bool true) ∧ Below w.heap.size w w') := by
  obtain ⟨v0, v1, v2, v3, b0, b1, b2, b3, rfl, rfl, e0, e1, e2, e3⟩ := Catalog_cells h1
  obtain ⟨u0, u1, u2, u3, p0, p1, p2, p3, rfl, hbq, f0, f1, f2, f3⟩ := Catalog_cells h2
  have hl2 : (p0 ++ (p1 ++ (p2 ++ p3))).length ≤ 5000 := by rw [← hbq]; exact hl
  have hl3 := hl
  simp only [List.length_append] at hl hl2
  obtain ⟨rfl, hbq0⟩ := enc_inj (by decide) e0 f0 (by omega) (by omega) hbq
  obtain ⟨rfl, hbq1⟩ := enc_inj (by decide) e1 f1 (by omega) (by omega) hbq0
  obtain ⟨rfl, hbq2⟩ := enc_inj (by decide) e2 f2 (by omega) (by omega) hbq1
  subst hbq2
  exact samest_Catalog e0 f0 e1 f1 e2 f2 e3 f3 hl3

/-- What a reading that ends well tells. -/
theorem end_ok {l : List UInt8} (h : endS (rdF sCatalog (l, 0)).2.1 (rdF sCatalog (l, 0)).2.2 = 0) : (rdF sCatalog (l, 0)).1 = l := by
  unfold endS at h
  split at h
  · rename_i h9; exact absurd h h9
  · rename_i h9
    split at h
    · cases h
    · rename_i h8
      have h7 := (rd_sound sCatalog (l, 0) (Classical.byContradiction h9)).2
      have h6 : (rdF sCatalog (l, 0)).2.1 = [] := List.eq_nil_of_length_eq_zero (by omega)
      rw [h6, List.append_nil] at h7
      exact h7.symm

namespace wireCatalogsUpto
set_option maxHeartbeats 16000000 in
theorem walk {H : Type} {enc : TypeId × Value → H} (v0 v1 : Value) (a2 : Int) (W : World) {base : Nat} {d0 d1 d2 : DataW H} {p0 p1 : List MemPlace} (hw0 : Value.okWide Try.prog W .any base 44 v0) (h0 : DataW.Trod enc Try.prog W 0 (fun _ => true) true 44 v0 d0 p0)
    (hw1 : Value.okWide Try.prog W .any base 23 v1) (h1 : DataW.Trod enc Try.prog W 0 (fun _ => true) true 23 v1 d1 p1) (hw2 : (Lit.int .u8 a2).wf = true) (hk : Rows.uptoSmall H [d0, d1, d2] = true) :
    Calls Try.prog 5 #[v0, v1, .int .u8 a2] W (fun e w' => e = .returned (.bool true) ∧ Below W.heap.size W w') := by
  obtain ⟨cs, bs, rfl, he, hl⟩ := struct_in 20 sCatalog 44 Try.underlying44 (by kernel_rfl) hw0 h0 (bulk_at hk (by simp))
  have HEN := hid he
  obtain ⟨v0, v1', v2, v3, b0, b1, b2, b3, rfl, rfl, e0, e1, e2, e3⟩ := Catalog_cells he
  obtain ⟨a2', n2, c2, rfl⟩ := form_list e2
  obtain ⟨hc2, hn2⟩ := list_len e2
  obtain ⟨a3, n3, c3, rfl⟩ := form_list e3
  obtain ⟨hc3, hn3⟩ := list_len e3
  obtain ⟨ao, ln, cp, rfl⟩ := okWide_slice Try.underlying23 hw1
  obtain ⟨fuel, hf⟩ := h1
  obtain ⟨bb, ⟨x9, l, hx9, -, hrl, hll, -⟩, -⟩ := opens (enc := enc) (W := W) 20 .data 23 fuel _ (d1, p1) (by kernel_rfl) hf (bulk_at hk (by simp))
  have hx8 : x9 = .slice ao ln cp := by simpa [Value.cells] using hx9.symm
  subst hx8
  obtain rfl : ln = l.length := by obtain ⟨_, _, e9, _⟩ := hrl; simp only [Value.slice.injEq] at e9; exact e9.2.1
  have hcp : l.length ≤ cp := by obtain ⟨_, _, e9, q9, _⟩ := hrl; simp only [Value.slice.injEq] at e9; omega
  obtain ⟨m, hm⟩ := byte_in hw2
  have HMM := hid hm
  obtain ⟨BX, hBX⟩ : ∃ BX, BX = b0 ++ (b1 ++ (b2 ++ b3)) := ⟨_, rfl⟩
  rw [← hBX] at HEN hl
  have CW : Hid (∀ V, Below W.heap.size W V → Calls Try.prog 15 #[.agg #[v0, v1', .slice a2' n2 c2, .slice a3 n3 c3]] V (Gives 5 V BX)) := hid fun V hV => by rw [hBX]; exact wtopCatalog_any (Enc.old hV _ e0) (Enc.old hV _ e1) (Enc.old hV _ e2) (Enc.old hV _ e3) (by rw [← hBX]; omega)
  have hb0 : Below W.heap.size W (W.alloc (.cells #[v0, v1', .slice a2' n2 c2, .slice a3 n3 c3] 44)) := (Below.refl _ _).alloc (Nat.le_refl _) _
  have hz := heap_alloc_new W (.cells #[v0, v1', .slice a2' n2 c2, .slice a3 n3 c3] 44)
  have HRL := hid hrl
  have HE := hid (And.intro e0 (And.intro e1 (And.intro e2 (And.intro e3 hBX))))
  have HBL := hid hl
  have HLL := hid hll
  clear hw0 h0 hw1 hf hk he hrl e0 e1 e2 e3 hBX hl hx9 hm hw2 hll
  go_enter Try.func5, Try.ntmps5
  go_upto_region 1 with fail
  generalize W.alloc (.cells #[v0, v1', .slice a2' n2 c2, .slice a3 n3 c3] 44) = w0 at *
  have HZ := hid hz
  have HB0 := hid hb0
  obtain ⟨z0, z1, z2, z3⟩ := four_cells9 hz
  clear hz hb0
  have hs0 : IntKind.i64.wrap ((n2 : Int) + (n3 : Int)) = (n2 : Int) + (n3 : Int) := by rw [IntKind.wrap_i64]; omega
  by_cases q0 : (60 : Int) < (n2 : Int) + (n3 : Int)
  · go_wp2_with (first | (go_at_call 7; refine (xawake_any _).mono ?_; rintro en w2 ⟨rfl, hb2⟩; have HB2 := hid (HB0.out.trans (hb2.mono HB0.out.size)); clear hb2))
    go_ret
    exact ⟨rfl, HB2.out⟩
  by_cases q1 : (5000 : Int) < (l.length : Int)
  · go_wp2_with (first | (go_at_call 7; refine (xawake_any _).mono ?_; rintro en w2 ⟨rfl, hb2⟩; have HB2 := hid (HB0.out.trans (hb2.mono HB0.out.size)); clear hb2))
    go_ret
    exact ⟨rfl, HB2.out⟩
  have CW0 := hid (CW.out _ HB0.out)
  go_upto_region 4 with (first | (go_at_call 15; refine CW0.out.mono ?_; rintro en w1 ⟨xv, rfl, ho, hb1⟩; obtain ⟨xo, xc, rfl, hrx⟩ := gives_rd ho; have HRX := hid hrx; have HB1 := hid (HB0.out.trans (hb1.mono HB0.out.size)); have HZ1 := hid ((hb1.block _ (lt_of_block HZ.out)).trans HZ.out); clear ho hrx hb1))
  clear z0 z1 z2 z3 hs0 CW0
  have hxc : BX.length ≤ xc := by obtain ⟨_, _, e9, q9, _⟩ := HRX.out; simp only [Value.slice.injEq] at e9; omega
  by_cases q2 : (5000 : Int) < (BX.length : Int)
  · go_wp2_with (first
      | (go_at_call 7; refine (xawake_any w1).mono ?_; rintro en w2 ⟨rfl, hb2⟩; have HB2 := hid (HB1.out.trans (hb2.mono HB1.out.size)); clear hb2)
      | (go_at_call 7; refine (xawake_any _).mono ?_; rintro en w3 ⟨rfl, hb3⟩; have HB3 := hid (HB2.out.trans (hb3.mono HB2.out.size)); clear hb3))
    go_ret
    exact ⟨rfl, HB3.out⟩
  have hlx : BX.length ≤ 5000 := by omega
  have HLX := hid hlx
  go_upto_region 6 with (first | (go_at_call 7; refine (xawake_any w1).mono ?_; rintro en w2 ⟨rfl, hb2⟩; have HB2 := hid (HB1.out.trans (hb2.mono HB1.out.size)); have HZ2 := hid ((hb2.block _ (lt_of_block HZ1.out)).trans HZ1.out); have HRX2 := hid (HRX.out.old hb2); clear hb2))
  clear hlx
  have CT := hid (takeCatalog_any _ BX w2 HRX2.out (by have := HLX.out; omega))
  have hE1 : rdF sCatalog (BX, 0) = (BX, [], 0) := by have := tk_back (x := .bool true) HEN.out HLX.out []; rw [List.append_nil] at this; exact this
  have CT1 : Hid (Calls Try.prog 19 #[.slice xo BX.length xc] w2 (fun en w' => ∃ cs : List Value, en = .returned (.tuple #[.agg cs.toArray, .int .i64 0]) ∧ EncN (fun j => w2.heap.size ≤ j ∧ j < w'.heap.size) w' sCatalog cs BX ∧ Below w2.heap.size w2 w')) := hid (CT.out.mono (by
    rintro en w9 ⟨cs, rfl, g1, g2, g3⟩
    rw [hE1] at g1 ⊢
    exact ⟨cs, rfl, g1 rfl, g3⟩))
  clear CT hE1
  go_upto_region 7 with (first | (go_at_call 19; refine CT1.out.mono ?_; rintro en w3 ⟨ds, rfl, hd, hb3⟩; obtain ⟨u0, u1, u2, u3, p0, p1, p2, p3, rfl, hbq, f0, f1, f2, f3⟩ := Catalog_cells (EncN.enc _ hd); obtain ⟨y0, rfl⟩ := form_int f0; obtain ⟨y1, rfl⟩ := form_int f1; obtain ⟨y2, j2, k2, rfl⟩ := form_list f2; obtain ⟨y3, j3, k3, rfl⟩ := form_list f3; have HD := hid (EncN.enc _ hd); have HB3 := hid (HB2.out.trans (hb3.mono HB2.out.size)); have HZ3 := hid ((hb3.block _ (lt_of_block HZ2.out)).trans HZ2.out); have HRX3 := hid (HRX2.out.old hb3); clear hd hb3 f0 f1 f2 f3 hbq))
  have hb4 : Below w3.heap.size w3 (w3.alloc (.cells #[.int .i64 y0, .int .i64 y1, .slice y2 j2 k2, .slice y3 j3 k3] 44)) := (Below.refl _ _).alloc (Nat.le_refl _) _
  have HX4 := hid (heap_alloc_new w3 (.cells #[.int .i64 y0, .int .i64 y1, .slice y2 j2 k2, .slice y3 j3 k3] 44))
  have HD4 := hid (Enc.old hb4 _ HD.out)
  have HB4 := hid (HB3.out.trans (hb4.mono HB3.out.size))
  have HZ4 := hid ((hb4.block _ (lt_of_block HZ3.out)).trans HZ3.out)
  have HRX4 := hid (HRX3.out.old hb4)
  obtain ⟨XD, hXD⟩ : ∃ X, X = w3.heap.size := ⟨_, rfl⟩
  rw [← hXD] at HX4
  clear hb4
  generalize w3.alloc (.cells #[.int .i64 y0, .int .i64 y1, .slice y2 j2 k2, .slice y3 j3 k3] 44) = w4 at *
  try rw [← hXD]
  clear hXD
  have CC4 := hid (copyBw_any w4 _ BX HRX4.out (by have := HLX.out; omega))
  obtain ⟨i0, hi, hz0, hz1, hz2⟩ := info_parts Try.info_u8
  go_wp2_with (first
    | (go_at_call 20; refine CC4.out.mono ?_; rintro en w5 ⟨yv, rfl, ho, hb5⟩; have HO5 := hid ho; have HB5 := hid hb5; clear ho hb5)
    | (at_builtin; refine wpList_append_own _ rfl _ _ 23 rfl w4.heap.size 5 i0 (.int .u8 0) 1 1 Try.underlying23 hi hz0 hz1 hz2 rfl (by decide) _ _ _ rfl (HO5.out.alloc _) ⟨w5.heap.size, 0, none⟩ 1 1 [.int .u8 a2] rfl rfl ?zc1 ?zc2 ?zc3 ?zc4 ?zc5 ?_))
  case zc1 => exact cell_one_new _ _ _
  case zc2 => intro u hu; simp only [List.mem_cons, List.not_mem_nil, or_false] at hu; subst hu; rfl
  case zc3 => unfold maxLen; have := HLX.out; omega
  case zc4 => have := HLX.out; omega
  case zc5 => have := HB5.out.size; simp; omega
  intro x' w6 hown' hgrow _
  have hb6 : Below w4.heap.size w4 w6 := (HB5.out.alloc HB5.out.size _).grown hgrow (by have := HB5.out.size; simp; omega) (fun k hk => (HO5.out.lt k hk).1)
  have HY6 : Hid (∃ (yo : Option Addr) (yc : Nat), x' = .slice yo (BX ++ [m]).length yc ∧ Rd w6 (.slice yo (BX ++ [m]).length yc) (BX ++ [m])) := hid (by
    have h9 : w6.ownsRow w4.heap.size 5 1 x' (BX ++ [m]).length ((BX ++ [m]).map bv) := by
      rw [List.length_append, List.map_append]
      rw [HMM.out] at hown'
      exact hown'
    exact gives_rd h9)
  have HB6 := hid (HB4.out.trans (hb6.mono HB4.out.size))
  have HZ6 := hid ((hb6.block _ (lt_of_block HZ4.out)).trans HZ4.out)
  have HX6 := hid ((hb6.block _ (lt_of_block HX4.out)).trans HX4.out)
  have HD6 := hid (Enc.old hb6 _ HD4.out)
  clear hown' hgrow hb6 hi hz0 hz1 hz2 CC4
  obtain ⟨yo, yc, rfl, hry⟩ := HY6.out
  have CT := hid (takeCatalog_any _ (BX ++ [m]) w6 hry (by rw [List.length_append]; have := HLX.out; simp; omega))
  obtain ⟨LY, hLY⟩ : ∃ n, n = (BX ++ [m]).length := ⟨_, rfl⟩
  rw [← hLY] at CT
  have hE2 : rdF sCatalog (BX ++ [m], 0) = (BX, [m], 0) := tk_back (x := .bool true) HEN.out HLX.out [m]
  have CT2 : Hid (Calls Try.prog 19 #[.slice yo LY yc] w6 (fun en w' => en = .returned (.tuple #[.agg #[.int .i64 0, .int .i64 0, .slice none 0 0, .slice none 0 0], .int .i64 9]) ∧ Below w6.heap.size w6 w')) := hid (CT.out.mono (by
    rintro en w9 ⟨cs, rfl, g1, g2, g3⟩
    rw [hE2] at g2 ⊢
    have g4 := g2 (by unfold endS; simp)
    subst g4
    exact ⟨rfl, g3⟩))
  clear CT hE2 hry HY6
  rw [← hLY]
  clear hLY
  go_upto_region 8 with (first | (go_at_call 19; refine CT2.out.mono ?_; rintro en w7 ⟨rfl, hb7⟩; have HB7 := hid hb7; clear hb7))
  have hb8 : Below w6.heap.size w6 (w7.alloc (.cells #[.int .i64 0, .int .i64 0, .slice none 0 0, .slice none 0 0] 44)) := HB7.out.alloc HB7.out.size _
  have HB8 := hid (HB6.out.trans (hb8.mono HB6.out.size))
  have HZ8 := hid ((hb8.block _ (lt_of_block HZ6.out)).trans HZ6.out)
  have HX8 := hid ((hb8.block _ (lt_of_block HX6.out)).trans HX6.out)
  have HD8 := hid (Enc.old hb8 _ HD6.out)
  clear hb8
  generalize w7.alloc (.cells #[.int .i64 0, .int .i64 0, .slice none 0 0, .slice none 0 0] 44) = w8 at *
  have CS := hid (samecat_any (Enc.old HB8.out _ HEN.out) HD8.out HLX.out)
  obtain ⟨z0, z1, z2, z3⟩ := four_cells9 HZ8.out
  obtain ⟨x0, x1, x2, x3⟩ := four_cells9 HX8.out
  go_upto_region 10 with (first | (go_at_call 21; refine CS.out.mono ?_; rintro en w9 ⟨rfl, hb9⟩; have HB9 := hid (HB8.out.trans (hb9.mono HB8.out.size)); clear hb9))
  clear z0 z1 z2 z3 x0 x1 x2 x3 CS
  have CT3 := hid (takeCatalog_any _ l w9 (HRL.out.old HB9.out) (by have := HLL.out; omega))
  obtain ⟨ev, hev⟩ : ∃ ev, ev = endS (rdF sCatalog (l, 0)).2.1 (rdF sCatalog (l, 0)).2.2 := ⟨_, rfl⟩
  have CT4 : Hid (Calls Try.prog 19 #[.slice ao l.length cp] w9 (fun en w' => ∃ (y0 y1 : Int) (y2 : Option Addr) (j2 k2 : Nat) (y3 : Option Addr) (j3 k3 : Nat), en = .returned (.tuple #[.agg #[.int .i64 y0, .int .i64 y1, .slice y2 j2 k2, .slice y3 j3 k3], .int .i64 ev]) ∧ (ev = 0 → Enc w' sCatalog [.int .i64 y0, .int .i64 y1, .slice y2 j2 k2, .slice y3 j3 k3] l) ∧ Below w9.heap.size w9 w')) := hid (CT3.out.mono (by
    rintro en wz ⟨cs, rfl, g1, g2, g3⟩
    obtain ⟨y0, y1, y2, j2, k2, y3, j3, k3, rfl⟩ := AlCatalog_forms g1 g2
    refine ⟨y0, y1, y2, j2, k2, y3, j3, k3, by rw [hev], fun h9 => ?_, g3⟩
    rw [hev] at h9
    have := EncN.enc _ (g1 h9)
    rw [end_ok h9] at this
    exact this))
  clear CT3 hev
  go_upto_region 11 with (first | (go_at_call 19; refine CT4.out.mono ?_; rintro en w10 ⟨t0, t1, t2, i2, r2, t3, i3, r3, rfl, hg, hb10⟩; have HG := hid hg; have HB10 := hid (HB9.out.trans (hb10.mono HB9.out.size)); clear hg hb10))
  clear CT4
  have hb11 : Below w10.heap.size w10 (w10.alloc (.cells #[.int .i64 t0, .int .i64 t1, .slice t2 i2 r2, .slice t3 i3 r3] 44)) := (Below.refl _ _).alloc (Nat.le_refl _) _
  have HX11 := hid (heap_alloc_new w10 (.cells #[.int .i64 t0, .int .i64 t1, .slice t2 i2 r2, .slice t3 i3 r3] 44))
  have HB11 := hid (HB10.out.trans (hb11.mono HB10.out.size))
  have HG11 : Hid (ev = 0 → Enc (w10.alloc (.cells #[.int .i64 t0, .int .i64 t1, .slice t2 i2 r2, .slice t3 i3 r3] 44)) sCatalog [.int .i64 t0, .int .i64 t1, .slice t2 i2 r2, .slice t3 i3 r3] l) := hid (fun h9 => Enc.old hb11 _ (HG.out h9))
  obtain ⟨XG, hXG⟩ : ∃ X, X = w10.heap.size := ⟨_, rfl⟩
  rw [← hXG] at HX11
  clear hb11
  generalize w10.alloc (.cells #[.int .i64 t0, .int .i64 t1, .slice t2 i2 r2, .slice t3 i3 r3] 44) = w11 at *
  try rw [← hXG]
  clear hXG
  by_cases h0 : ev = 0
  · subst h0
    have CG : Hid (Calls Try.prog 15 #[.agg #[.int .i64 t0, .int .i64 t1, .slice t2 i2 r2, .slice t3 i3 r3]] w11 (Gives 5 w11 l)) := hid (by
      obtain ⟨u0, u1, u2, u3, p0, p1, p2, p3, hcs, hbq, f0, f1, f2, f3⟩ := Catalog_cells (HG11.out rfl)
      simp only [List.cons.injEq, and_true] at hcs
      obtain ⟨rfl, rfl, rfl, rfl⟩ := hcs
      have := wtopCatalog_any f0 f1 f2 f3 (by rw [← hbq]; have := HLL.out; omega)
      rw [← hbq] at this
      exact this)
    have HRL11 := hid (HRL.out.old HB11.out)
    obtain ⟨x0, x1, x2, x3⟩ := four_cells9 HX11.out
    go_wp2_with (first
      | (go_at_call 15; refine CG.out.mono ?_; rintro en w12 ⟨gv, rfl, ho, hb12⟩; have HRG := hid (Rd.own ho); have HB12 := hid (HB11.out.trans (hb12.mono HB11.out.size)); have HRL12 := hid (HRL11.out.old hb12); have CB := hid (bytes_any gv _ l l w12 (Rd.own ho) (HRL11.out.old hb12)); clear ho hb12)
      | (go_at_call 8; refine CB.out.mono ?_; rintro en w13 ⟨rfl, rfl⟩))
    go_ret
    exact ⟨by simp, HB12.out⟩
  · have hbe : (ev != 0) = true := by simp [h0]
    go_wp2_with fail
    go_ret
    exact ⟨rfl, HB11.out⟩
end wireCatalogsUpto
end Go.Proofs.Ytiblambiebojmaa

namespace Go.Proofs.Ytiblambiebojmaa.wireCatalogsUpto
open Go.ChangeShapes Go.WideShapes Go.ChangeAt Go.RowKit
open Go.ChangeMaps (open_string shut_string)
set_option linter.unusedVariables false

theorem own : ownKnob Try.prog.godebug = none := by kernel_rfl
theorem laidOut : laidOutB Try.prog = true := by kernel_rfl

set_option maxRecDepth 100000 in
theorem contract (H : Type) (enc : TypeId × Value → H) (W : World) (base : Nat) (args : Array Value) (ds gs : List (DataW H)) (before : List MemPlace)
    (hval0 : ∀ (j : Nat) t v, Try.f5.params[j]? = some t → args[j]? = some v → Value.okWide Try.prog W .any base t v)
    (hW : DataW.Whole enc Try.prog Try.f5.params.toList Rows.wireCatalogsSpec.vars false W args.toList ds gs before) (hk : Rows.uptoSmall H (ds ++ gs) = true) :
    Calls Try.prog 5 args W fun e W' => ∃ v, e = .returned v ∧ Rows.wireCatalogsSpec.post enc Try.prog Try.f5 false true false false W args v W' := by
  have hval : ∀ (j : Nat) t v, Try.f5.params[j]? = some t → args[j]? = some v → Value.okWide Try.prog W .any base t v := hval0
  have hW' := hW
  obtain ⟨p, q, hA0, hV, rfl, hfz, hnd⟩ := hW
  have hA : DataW.TrodAll enc Try.prog W 0 (fun _ => true) true Try.f5.params.toList args.toList ds p := hA0
  rw [Try.params5] at hA hval
  obtain ⟨v0, vs0, d0, ds0, p0, q0, hargs, rfl, rfl, h0, r0⟩ := trodAll_cons hA
  obtain ⟨v1, vs1, d1, ds1, p1, q1, rfl, rfl, rfl, h1, r1⟩ := trodAll_cons r0
  obtain ⟨v2, vs2, d2, ds2, p2, q2, rfl, rfl, rfl, h2, r2⟩ := trodAll_cons r1
  obtain ⟨rfl, rfl, rfl⟩ := trodAll_nil r2
  obtain rfl : args = #[v0, v1, v2] := by cases args; simp_all
  obtain ⟨rfl, rfl⟩ := trodVars_none hV
  have k0 := h0
  have lt0 : ∀ x ∈ p0, x.block < W.heap.size := by obtain ⟨m, hm⟩ := k0; exact DataW.trod_lt m _ _ _ hm
  have k1 := h1
  have lt1 : ∀ x ∈ p1, x.block < W.heap.size := by obtain ⟨m, hm⟩ := k1; exact DataW.trod_lt m _ _ _ hm
  obtain ⟨a2, rfl, rfl, rfl, w2⟩ := open_int Try.underlying5 (hval 2 5 v2 rfl rfl) h2
  clear hA0 hval0
  simp only [List.append_nil] at hk
  refine (walk v0 v1 a2 W (hval 0 44 v0 rfl rfl) h0 (hval 1 23 v1 rfl rfl) h1 w2 hk).mono fun e W' ⟨he, bel⟩ => ?_
  subst he
  exact ⟨_, rfl, _, _, _, [], _, [], hW', trodAll_mk1 (shut_bool Try.underlying4 _), (trodAll_cons_mk (Below.trod laidOut (by kernel_rfl) (of_decide_eq_true (by kernel_rfl)) k0 bel lt0) (trodAll_cons_mk (Below.trod laidOut (by kernel_rfl) (of_decide_eq_true (by kernel_rfl)) k1 bel lt1) (trodAll_cons_mk (shut_int Try.underlying5 w2) trodAll_mk0))), rfl, bel.frame _, fun h => by cases h⟩

set_option maxRecDepth 100000 in
theorem lifted (os : Os) (started : os.Started) (H : Type) (enc : TypeId × Value → H) (F : Stop.Interp) :
    ReturnsInHanded {} Try.checked os 5 .any ((Rows.OpenSpec.upto Rows.wireCatalogsSpec).pre6 enc Try.prog Try.f5 Rows.wireCatalogsUptoRow.domain false) (((Rows.OpenSpec.upto Rows.wireCatalogsSpec).at F).post enc Try.prog Try.f5 false true false false) := by
  refine returnsInHanded_of_cond (C := Try.checked) (s := Rows.OpenSpec.upto Rows.wireCatalogsSpec) (k := Rows.uptoSmall) rfl own started (by kernel_rfl) Try.func5
    (OpenSpec.witness (enc := enc) (C := Try.checked) (s := Rows.OpenSpec.upto Rows.wireCatalogsSpec) (k := Rows.uptoSmall) rfl false ⟨#[], #[.agg #[.int .i64 0, .int .i64 0, .slice none 0 0, .slice none 0 0], .slice none 0 0, .int .u8 0], []⟩ 8 (by kernel_rfl) (by kernel_rfl) (by kernel_rfl)
      (x := ([.agg [.lit (.int .i64 0), .lit (.int .i64 0), .nil, .nil], .nil, .lit (.int .u8 0)], [], [])) (by kernel_rfl) rfl (by kernel_rfl)) ?_
  intro W base args ds gs before hval hW _ hk _
  exact contract H enc W base args ds gs before hval hW hk

theorem over : Rows.wireCatalogsUptoRow.holds Try.pinned (Rows.OpenSpec.upto Rows.wireCatalogsSpec) :=
  OpenClaim.holds_of_cond 5 Try.f5 rfl rfl rfl rfl rfl rfl rfl ⟨rfl, rfl, rfl, rfl, rfl⟩ rfl rfl rfl rfl rfl (by kernel_rfl) Try.func5 (by kernel_rfl)
    (of_decide_eq_true (by kernel_rfl)) (by unfold Func.isWrapper; first | (rw [if_pos (by decide +kernel)]; kernel_rfl) | (rw [if_neg (by decide +kernel)]; exact ⟨rfl, rfl⟩))
    (fun os started H enc _ F => lifted os started H enc F)

/-- THE STATEMENT. -/
theorem proved : Rows.WireCatalogsUptoSaid := over
end Go.Proofs.Ytiblambiebojmaa.wireCatalogsUpto

