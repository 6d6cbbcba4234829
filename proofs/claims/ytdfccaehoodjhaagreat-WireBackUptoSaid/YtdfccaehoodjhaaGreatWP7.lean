import Derived.WalkKit
import Derived.OpenShut
import Derived.Test.YtdfccaehoodjhaaGreatRows
import Derived.WalkSpells
import Derived.WalkLawsBesides
import Derived.Laws.AppendOwnNone
import Derived.ProofKit
import Derived.ShutString
import Derived.ChangeOld
import Derived.Below
import Derived.SizedLaws
import Derived.Deep.Slices
import Derived.Deep.AppendLies
import Derived.Deep.Strs
import Derived.Deep.RegionHeld3
import Derived.Lib.ConvBytes
import Derived.Laws.AppendOwn
import Derived.Deep.CutRange
import Derived.Deep.MidRow
import Derived.Great.Walk
import Derived.Great.BuildSlice
import Derived.Test.YtdfccaehoodjhaaGreatWP1
import Derived.Test.YtdfccaehoodjhaaGreatWP2
import Derived.Test.YtdfccaehoodjhaaGreatWP3
import Derived.Test.YtdfccaehoodjhaaGreatWP4
import Derived.Test.YtdfccaehoodjhaaGreatWP5
import Derived.Test.YtdfccaehoodjhaaGreatWP6
set_option linter.unusedVariables false
set_option linter.unusedSimpArgs false
set_option linter.unusedVariables false
set_option linter.unusedSimpArgs false
set_option maxRecDepth 100000
namespace Go.Proofs.YtdfccaehoodjhaaGreat
open Go.RowKit Go.Deep

set_option maxHeartbeats 8000000 in
theorem rCatalog_any {w : World} {R : Nat} {st : Rst} (h : RAt w R st.1 st.2) (hl : st.1.length ≤ 140737488355328) :
    Calls Tryz.prog 53 #[.agg #[.pointer (some ⟨R, 0, none⟩)]] w (fun en w' => ∃ cs, en = .returned (.agg cs.toArray) ∧ RdP sCatalog R w st cs w') := by
  have hb : Below w.heap.size w ((w.alloc (.cells #[.pointer (some ⟨R, 0, none⟩)] 85)).alloc (.cells #[.int .i64 0, .int .i64 0, .slice none 0 0, .slice none 0 0] 50)) := ((Below.refl _ _).alloc (Nat.le_refl _) _).alloc (by simp) _
  have hz := (Below.heap_alloc (w.alloc (.cells #[.pointer (some ⟨R, 0, none⟩)] 85)) (.cells #[.int .i64 0, .int .i64 0, .slice none 0 0, .slice none 0 0] 50) w.heap.size (by simp)).trans (heap_alloc_new w (.cells #[.pointer (some ⟨R, 0, none⟩)] 85))
  have hB := heap_alloc2_new w (.cells #[.pointer (some ⟨R, 0, none⟩)] 85) (.cells #[.int .i64 0, .int .i64 0, .slice none 0 0, .slice none 0 0] 50)
  obtain ⟨B, hBe⟩ : ∃ B, B = w.heap.size + 1 := ⟨_, rfl⟩
  have hRw := h.lt
  have hRB : R < B := by omega
  have HR0 := hid (h.old hb)
  rw [← hBe] at hB
  have HB0 := hid hB
  have HX0 := hid hz
  have HBW := hid hb
  have HL0 := hid hl
  clear h hb hz hB hl
  go_enter Tryz.func53, Tryz.ntmps53
  go_upto_region 1 with fail
  generalize (w.alloc (.cells #[.pointer (some ⟨R, 0, none⟩)] 85)).alloc (.cells #[.int .i64 0, .int .i64 0, .slice none 0 0, .slice none 0 0] 50) = w0 at *
  try rw [← hBe]
  have HK0 : Hid (Keep (fun j => j = R ∨ j = B) w0 w0) := hid (Keep.refl _ _)
  have HBE := hid hBe
  clear hBe
  have y0 := (one_cell HX0.out).1
  have CQ := hid (rtake_whole 0 HR0.out HL0.out HB0.out rfl hRB)
  go_upto_region 2 with (first | (go_at_call 88; refine CQ.out.mono ?_; rintro en w1 ⟨rfl, v0, hv⟩; have HV0 := hid hv; clear hv))
  clear CQ y0
  have HB1 : Hid (w1.heap[B]? = some (.cells #[v0, .int .i64 0, .slice none 0 0, .slice none 0 0] 50 (0, 0))) := HV0.out.2.1
  have HR1 : Hid (RAt w1 R (rdF .int st).2.1 (rdF .int st).2.2) := HV0.out.2.2.1
  have HL1 : Hid ((rdF .int st).2.1.length ≤ 140737488355328) := hid (Nat.le_trans (rd_len _ _) HL0.out)
  have HX1 := hid ((HV0.out.2.2.2.block w.heap.size (lt_of_block HX0.out) (fun e => by have e9 : w.heap.size = R ∨ w.heap.size = B := e; have := HBE.out; omega)).trans HX0.out)
  have HK1 := hid (HK0.out.trans HV0.out.2.2.2)
  have HE0_1 : Hid (EncN (fun j => B < j ∧ j < w1.heap.size) w1 .int [v0] (rdF .int st).1) := hid (EncN.mono (fun j hj => ⟨Nat.lt_of_lt_of_le (lt_of_block HB0.out) hj.1, hj.2⟩) _ HV0.out.1)
  have y0 := (one_cell HX1.out).1
  have CQ := hid (rtake_whole 1 HR1.out HL1.out HB1.out rfl hRB)
  go_upto_region 3 with (first | (go_at_call 88; refine CQ.out.mono ?_; rintro en w2 ⟨rfl, v1, hv⟩; have HV1 := hid hv; clear hv))
  clear CQ y0
  have HB2 : Hid (w2.heap[B]? = some (.cells #[v0, v1, .slice none 0 0, .slice none 0 0] 50 (0, 0))) := HV1.out.2.1
  have HR2 : Hid (RAt w2 R (rdF .int (rdF .int st).2).2.1 (rdF .int (rdF .int st).2).2.2) := HV1.out.2.2.1
  have HL2 : Hid ((rdF .int (rdF .int st).2).2.1.length ≤ 140737488355328) := hid (Nat.le_trans (rd_len _ _) HL1.out)
  have HX2 := hid ((HV1.out.2.2.2.block w.heap.size (lt_of_block HX1.out) (fun e => by have e9 : w.heap.size = R ∨ w.heap.size = B := e; have := HBE.out; omega)).trans HX1.out)
  have HK2 := hid (HK1.out.trans HV1.out.2.2.2)
  have HE1_2 : Hid (EncN (fun j => B < j ∧ j < w2.heap.size) w2 .int [v1] (rdF .int (rdF .int st).2).1) := hid (EncN.mono (fun j hj => ⟨Nat.lt_of_lt_of_le (lt_of_block HB1.out) hj.1, hj.2⟩) _ HV1.out.1)
  have HE0_2 : Hid (EncN (fun j => B < j ∧ j < w2.heap.size) w2 .int [v0] (rdF .int st).1) := hid (EncN.mono (fun j hj => ⟨hj.1, Nat.lt_of_lt_of_le hj.2 HV1.out.2.2.2.size⟩) _ (EncN.keep HV1.out.2.2.2 (fun j hj e => by have e9 : j = R ∨ j = B := e; have := hj.1; omega) _ HE0_1.out))
  have y0 := (one_cell HX2.out).1
  have CQ := hid (rlist_Table 2 HR2.out HL2.out HB2.out rfl hRB)
  go_upto_region 4 with (first | (go_at_call 122; refine CQ.out.mono ?_; rintro en w3 ⟨rfl, v2, hv⟩; have HV2 := hid hv; clear hv))
  clear CQ y0
  have HB3 : Hid (w3.heap[B]? = some (.cells #[v0, v1, v2, .slice none 0 0] 50 (0, 0))) := HV2.out.2.1
  have HR3 : Hid (RAt w3 R (rdF (.list sTable) (rdF .int (rdF .int st).2).2).2.1 (rdF (.list sTable) (rdF .int (rdF .int st).2).2).2.2) := HV2.out.2.2.1
  have HL3 : Hid ((rdF (.list sTable) (rdF .int (rdF .int st).2).2).2.1.length ≤ 140737488355328) := hid (Nat.le_trans (rd_len _ _) HL2.out)
  have HX3 := hid ((HV2.out.2.2.2.block w.heap.size (lt_of_block HX2.out) (fun e => by have e9 : w.heap.size = R ∨ w.heap.size = B := e; have := HBE.out; omega)).trans HX2.out)
  have HK3 := hid (HK2.out.trans HV2.out.2.2.2)
  have HE2_3 : Hid (EncN (fun j => B < j ∧ j < w3.heap.size) w3 (.list sTable) [v2] (rdF (.list sTable) (rdF .int (rdF .int st).2).2).1) := hid (EncN.mono (fun j hj => ⟨Nat.lt_of_lt_of_le (lt_of_block HB2.out) hj.1, hj.2⟩) _ HV2.out.1)
  have HE0_3 : Hid (EncN (fun j => B < j ∧ j < w3.heap.size) w3 .int [v0] (rdF .int st).1) := hid (EncN.mono (fun j hj => ⟨hj.1, Nat.lt_of_lt_of_le hj.2 HV2.out.2.2.2.size⟩) _ (EncN.keep HV2.out.2.2.2 (fun j hj e => by have e9 : j = R ∨ j = B := e; have := hj.1; omega) _ HE0_2.out))
  have HE1_3 : Hid (EncN (fun j => B < j ∧ j < w3.heap.size) w3 .int [v1] (rdF .int (rdF .int st).2).1) := hid (EncN.mono (fun j hj => ⟨hj.1, Nat.lt_of_lt_of_le hj.2 HV2.out.2.2.2.size⟩) _ (EncN.keep HV2.out.2.2.2 (fun j hj e => by have e9 : j = R ∨ j = B := e; have := hj.1; omega) _ HE1_2.out))
  have y0 := (one_cell HX3.out).1
  have CQ := hid (rlist_Index 3 HR3.out HL3.out HB3.out rfl hRB)
  go_upto_region 5 with (first | (go_at_call 123; refine CQ.out.mono ?_; rintro en w4 ⟨rfl, v3, hv⟩; have HV3 := hid hv; clear hv))
  clear CQ y0
  have HB4 : Hid (w4.heap[B]? = some (.cells #[v0, v1, v2, v3] 50 (0, 0))) := HV3.out.2.1
  have HR4 : Hid (RAt w4 R (rdF (.list sIndex) (rdF (.list sTable) (rdF .int (rdF .int st).2).2).2).2.1 (rdF (.list sIndex) (rdF (.list sTable) (rdF .int (rdF .int st).2).2).2).2.2) := HV3.out.2.2.1
  have HL4 : Hid ((rdF (.list sIndex) (rdF (.list sTable) (rdF .int (rdF .int st).2).2).2).2.1.length ≤ 140737488355328) := hid (Nat.le_trans (rd_len _ _) HL3.out)
  have HX4 := hid ((HV3.out.2.2.2.block w.heap.size (lt_of_block HX3.out) (fun e => by have e9 : w.heap.size = R ∨ w.heap.size = B := e; have := HBE.out; omega)).trans HX3.out)
  have HK4 := hid (HK3.out.trans HV3.out.2.2.2)
  have HE3_4 : Hid (EncN (fun j => B < j ∧ j < w4.heap.size) w4 (.list sIndex) [v3] (rdF (.list sIndex) (rdF (.list sTable) (rdF .int (rdF .int st).2).2).2).1) := hid (EncN.mono (fun j hj => ⟨Nat.lt_of_lt_of_le (lt_of_block HB3.out) hj.1, hj.2⟩) _ HV3.out.1)
  have HE0_4 : Hid (EncN (fun j => B < j ∧ j < w4.heap.size) w4 .int [v0] (rdF .int st).1) := hid (EncN.mono (fun j hj => ⟨hj.1, Nat.lt_of_lt_of_le hj.2 HV3.out.2.2.2.size⟩) _ (EncN.keep HV3.out.2.2.2 (fun j hj e => by have e9 : j = R ∨ j = B := e; have := hj.1; omega) _ HE0_3.out))
  have HE1_4 : Hid (EncN (fun j => B < j ∧ j < w4.heap.size) w4 .int [v1] (rdF .int (rdF .int st).2).1) := hid (EncN.mono (fun j hj => ⟨hj.1, Nat.lt_of_lt_of_le hj.2 HV3.out.2.2.2.size⟩) _ (EncN.keep HV3.out.2.2.2 (fun j hj e => by have e9 : j = R ∨ j = B := e; have := hj.1; omega) _ HE1_3.out))
  have HE2_4 : Hid (EncN (fun j => B < j ∧ j < w4.heap.size) w4 (.list sTable) [v2] (rdF (.list sTable) (rdF .int (rdF .int st).2).2).1) := hid (EncN.mono (fun j hj => ⟨hj.1, Nat.lt_of_lt_of_le hj.2 HV3.out.2.2.2.size⟩) _ (EncN.keep HV3.out.2.2.2 (fun j hj e => by have e9 : j = R ∨ j = B := e; have := hj.1; omega) _ HE2_3.out))
  obtain ⟨y0, rfl⟩ := form_int (EncN.enc _ HE0_4.out)
  obtain ⟨y1, rfl⟩ := form_int (EncN.enc _ HE1_4.out)
  obtain ⟨y2, j2, c2, rfl⟩ := form_list (EncN.enc _ HE2_4.out)
  obtain ⟨y3, j3, c3, rfl⟩ := form_list (EncN.enc _ HE3_4.out)
  obtain ⟨q0, r0⟩ := row_at (cs := [(.int .i64 y0), (.int .i64 y1), (.slice y2 j2 c2), (.slice y3 j3 c3)]) HB4.out (i := 0) rfl
  obtain ⟨q1, r1⟩ := row_at (cs := [(.int .i64 y0), (.int .i64 y1), (.slice y2 j2 c2), (.slice y3 j3 c3)]) HB4.out (i := 1) rfl
  obtain ⟨q2, r2⟩ := row_at (cs := [(.int .i64 y0), (.int .i64 y1), (.slice y2 j2 c2), (.slice y3 j3 c3)]) HB4.out (i := 2) rfl
  obtain ⟨q3, r3⟩ := row_at (cs := [(.int .i64 y0), (.int .i64 y1), (.slice y2 j2 c2), (.slice y3 j3 c3)]) HB4.out (i := 3) rfl
  have hs0 : w4.heap[B]? = some (.cells ([(.int .i64 y0), (.int .i64 y1), (.slice y2 j2 c2), (.slice y3 j3 c3)] : List Value).toArray 50 (0, 0)) := HB4.out
  have hs1 := row_put hs0 0 (.int .i64 y0)
  have hs2 := row_put hs1 1 (.int .i64 y1)
  have hs3 := row_put hs2 2 (.slice y2 j2 c2)
  have hs4 := row_put hs3 3 (.slice y3 j3 c3)
  have hks : Keep (fun j => j = B) w4 ((((w4.setCell ⟨B, 0, none⟩ (.int .i64 y0)).setCell ⟨B, 1, none⟩ (.int .i64 y1)).setCell ⟨B, 2, none⟩ (.slice y2 j2 c2)).setCell ⟨B, 3, none⟩ (.slice y3 j3 c3)) := ((((Keep.refl (fun j => j = B) _).trans (Keep.set (X := fun j => j = B) _ ⟨B, 0, none⟩ (.int .i64 y0) rfl)).trans (Keep.set (X := fun j => j = B) _ ⟨B, 1, none⟩ (.int .i64 y1) rfl)).trans (Keep.set (X := fun j => j = B) _ ⟨B, 2, none⟩ (.slice y2 j2 c2) rfl)).trans (Keep.set (X := fun j => j = B) _ ⟨B, 3, none⟩ (.slice y3 j3 c3) rfl)
  have HSF : Hid (((((w4.setCell ⟨B, 0, none⟩ (.int .i64 y0)).setCell ⟨B, 1, none⟩ (.int .i64 y1)).setCell ⟨B, 2, none⟩ (.slice y2 j2 c2)).setCell ⟨B, 3, none⟩ (.slice y3 j3 c3)).heap[B]? = some (.cells #[(.int .i64 y0), (.int .i64 y1), (.slice y2 j2 c2), (.slice y3 j3 c3)] 50 (0, 0))) := hs4
  have HKS := hid hks
  clear hks hs0 hs1 hs2 hs3 hs4
  go_wp2_with fail
  refine bodyPost_ret (results_cell_row rfl _ _ B 50 _ (0, 0) _ rfl HSF.out Tryz.underlying50 rfl (by kernel_rfl)) rfl ?_
  have hfin : ∀ (s : Sh) (cs : List Value) (bs : List UInt8), EncN (fun j => B < j ∧ j < w4.heap.size) w4 s cs bs → EncN (fun j => w.heap.size ≤ j ∧ j < ((((w4.setCell ⟨B, 0, none⟩ (.int .i64 y0)).setCell ⟨B, 1, none⟩ (.int .i64 y1)).setCell ⟨B, 2, none⟩ (.slice y2 j2 c2)).setCell ⟨B, 3, none⟩ (.slice y3 j3 c3)).heap.size) ((((w4.setCell ⟨B, 0, none⟩ (.int .i64 y0)).setCell ⟨B, 1, none⟩ (.int .i64 y1)).setCell ⟨B, 2, none⟩ (.slice y2 j2 c2)).setCell ⟨B, 3, none⟩ (.slice y3 j3 c3)) s cs bs := fun s cs bs h => EncN.mono (fun j hj => ⟨by have := HBE.out; omega, Nat.lt_of_lt_of_le hj.2 HKS.out.size⟩) s (EncN.keep HKS.out (fun j hj e => by have e9 : j = B := e; have := hj.1; omega) s h)
  refine ⟨[(.int .i64 y0), (.int .i64 y1), (.slice y2 j2 c2), (.slice y3 j3 c3)], rfl, ?_, HR4.out.keepK HKS.out (fun j e => by have e9 : j = B := e; omega), ?_⟩
  · exact ⟨[(.int .i64 y0)], [(.int .i64 y1), (.slice y2 j2 c2), (.slice y3 j3 c3)], _, _, rfl, rfl, hfin _ _ _ HE0_4.out, ⟨[(.int .i64 y1)], [(.slice y2 j2 c2), (.slice y3 j3 c3)], _, _, rfl, rfl, hfin _ _ _ HE1_4.out, ⟨[(.slice y2 j2 c2)], [(.slice y3 j3 c3)], _, _, rfl, rfl, hfin _ _ _ HE2_4.out, ⟨[(.slice y3 j3 c3)], [], _, _, rfl, rfl, hfin _ _ _ HE3_4.out, ⟨rfl, rfl⟩⟩⟩⟩⟩
  · exact (Keep.of_below HBW.out).trans2 (HK4.out.trans (HKS.out.mono (fun j _ e => .inr e))) (fun j e => by rcases e with e | e <;> first | exact .inl e | exact .inr (by have := HBE.out; omega))

end Go.Proofs.YtdfccaehoodjhaaGreat

set_option linter.unusedVariables false
set_option linter.unusedSimpArgs false
set_option maxRecDepth 100000
namespace Go.Proofs.YtdfccaehoodjhaaGreat
open Go.RowKit Go.Deep

theorem results_cell2 {P : Program} {fn : Func} {p u : Tmp} {ty : TypeId} (h : fn.results = #[.cell p ty, .tmp u]) (tmps : Array Value) (w : World) (g : Nat) (t : TypeId) (cs : Array Value) (fr : Nat × Nat) (d : TypeDesc)
    (hp : tmps.getD p undef = .pointer (some ⟨g, 0, none⟩)) (hg : w.heap[g]? = some (.cells cs t fr))
    (hu : P.underlying ty = some d) (hd : (match d with | .struct _ | .array _ _ => true | _ => false) = true) (hi : (P.info? ty).map (·.size) = some cs.size) :
    (results fn tmps).run P w = .ok (.tuple #[.agg cs, tmps.getD u undef]) w := by
  have hp' : tmps[p]?.getD undef = .pointer (some ⟨g, 0, none⟩) := by simpa using hp
  simp [results, h, hp', asAddr, run_loadVar_row w g t ty cs fr d hg hu hd hi]

end Go.Proofs.YtdfccaehoodjhaaGreat

set_option linter.unusedVariables false
set_option linter.unusedSimpArgs false
set_option maxRecDepth 100000
namespace Go.Proofs.YtdfccaehoodjhaaGreat
open Go.RowKit Go.Deep

theorem setRow_keep (w : World) (B : Nat) (cs : Array Value) : Keep (fun k => k = B) w (w.setRow B cs) := by
  refine ⟨rfl, rfl, rfl, ?_, ?_⟩
  · show w.heap.size ≤ (w.heap.modify B _).size
    simp
  · intro k hk hx
    show (w.heap.modify B _)[k]? = _
    rw [Array.getElem?_modify, if_neg (fun e => hx e.symm)]
end Go.Proofs.YtdfccaehoodjhaaGreat

set_option linter.unusedVariables false
set_option linter.unusedSimpArgs false
set_option maxRecDepth 100000
namespace Go.Proofs.YtdfccaehoodjhaaGreat
open Go.RowKit Go.Deep

theorem rnum9_any {w : World} {R : Nat} {st : Rst} (h : RAt w R st.1 st.2) : Calls Tryz.prog 81 #[.pointer (some ⟨R, 0, none⟩)] w (fun en w' => ∃ v, en = .returned v ∧ RdP .num R w st [v] w') := by
  refine (numR_any w R st.1 st.2 h).mono ?_
  rintro en w2 ⟨rfl, h2, g2⟩
  exact ⟨_, rfl, ⟨_, lookS_lt _ _ _, rfl, rfl⟩, h2, Keep.of_grown g2 (fun k e => by cases e; rfl)⟩

theorem rint9_any {w : World} {R : Nat} {st : Rst} (h : RAt w R st.1 st.2) : Calls Tryz.prog 165 #[.pointer (some ⟨R, 0, none⟩)] w (fun en w' => ∃ v, en = .returned v ∧ RdP .int R w st [v] w') := by
  refine (intR_any w R st.1 st.2 h).mono ?_
  rintro en w2 ⟨rfl, h2, g2⟩
  exact ⟨_, rfl, ⟨_, unzig_wf (lookS_lt _ _ _), rfl, rfl⟩, h2, Keep.of_grown g2 (fun k e => by cases e; rfl)⟩

set_option maxHeartbeats 1000000 in
theorem rerrno_any {w : World} {R : Nat} {st : Rst} (h : RAt w R st.1 st.2) : Calls Tryz.prog 114 #[.agg #[.pointer (some ⟨R, 0, none⟩)]] w (fun en w' => ∃ v, en = .returned v ∧ RdP .int R w st [v] w') := by
  have hb : Below w.heap.size w (w.alloc (.cells #[.pointer (some ⟨R, 0, none⟩)] 85)) := (Below.refl _ _).alloc (Nat.le_refl _) _
  have hz := (one_cell (heap_alloc_new w (.cells #[.pointer (some ⟨R, 0, none⟩)] 85))).1
  have H := hid (h.old hb)
  have HB := hid hb
  clear h hb
  go_enter Tryz.func114, Tryz.ntmps114
  go_upto_region 1 with fail
  generalize w.alloc (.cells #[.pointer (some ⟨R, 0, none⟩)] 85) = w1 at *
  go_wp2_with (first | (go_at_call 165; refine (intR_any w1 R st.1 st.2 H.out).mono ?_; rintro en w2 ⟨rfl, h2, g2⟩; have H2 := hid h2; have G2 := hid g2; clear h2 g2))
  go_ret
  exact ⟨_, rfl, ⟨_, unzig_wf (lookS_lt _ _ _), rfl, rfl⟩, H2.out, (Keep.of_below HB.out).trans (Keep.of_grown G2.out (fun k e => by cases e; rfl))⟩

set_option maxHeartbeats 1000000 in
theorem rdata_any {w : World} {R : Nat} {st : Rst} (h : RAt w R st.1 st.2) (hl : st.1.length ≤ 140737488355328) : Calls Tryz.prog 83 #[.agg #[.pointer (some ⟨R, 0, none⟩)]] w (fun en w' => ∃ v, en = .returned v ∧ RdP .data R w st [v] w') := by
  have hb : Below w.heap.size w (w.alloc (.cells #[.pointer (some ⟨R, 0, none⟩)] 85)) := (Below.refl _ _).alloc (Nat.le_refl _) _
  have hz := (one_cell (heap_alloc_new w (.cells #[.pointer (some ⟨R, 0, none⟩)] 85))).1
  have H := hid (h.old hb)
  have HB := hid hb
  clear h hb
  go_enter Tryz.func83, Tryz.ntmps83
  go_upto_region 1 with fail
  have hs1 : w.heap.size ≤ (w.alloc (.cells #[.pointer (some ⟨R, 0, none⟩)] 85)).heap.size := HB.out.size
  have HS1 := hid hs1
  clear hs1
  generalize w.alloc (.cells #[.pointer (some ⟨R, 0, none⟩)] 85) = w1 at *
  obtain ⟨tx, htx⟩ : ∃ tx, tx = textS 65536 st.1 st.2 := ⟨_, rfl⟩
  have C : Calls Tryz.prog 162 #[.pointer (some ⟨R, 0, none⟩), .int .i64 65536] w1 (TextIs w1 R tx st.1) := by rw [htx]; exact textR_any w1 R st.1 st.2 65536 (by decide) H.out hl
  have HTL : Hid (tx.1.length ≤ 1048576) := hid (by rw [htx]; exact Nat.le_trans (textS_len _ _ _) (by decide))
  have HTX := hid htx
  have CH := hid C
  clear C htx
  go_upto_region 2 with (first | (go_at_call 162; refine CH.out.mono ?_; rintro en w2 ⟨ao, c, rfl, ho, h2, g2⟩; have HO := hid ho; have H2 := hid h2; have G2 := hid g2; clear ho h2 g2))
  by_cases h0 : tx.1.length = 0
  · have HL0 := hid h0
    have hn0 : (tx.1.length : Int) = 0 := by omega
    go_wp2_with fail
    go_ret
    refine ⟨_, rfl, ⟨_, [], rfl, rfl, Rd.nil _, by decide, ?_, fun k e => by cases e⟩, ?_, (Keep.of_below HB.out).trans (Keep.of_grown G2.out (fun k e => by cases e; rfl))⟩
    · simp only [rdF]; rw [← HTX.out, List.eq_nil_of_length_eq_zero HL0.out]
    · simp only [rdF]; rw [← HTX.out]; exact H2.out
  · have hn0 : ¬ (tx.1.length : Int) = 0 := by omega
    go_wp2_with fail
    go_ret
    refine ⟨_, rfl, ⟨_, tx.1, rfl, rfl, Rd.own HO.out, HTL.out, ?_, fun k e => ?_⟩, ?_, (Keep.of_below HB.out).trans (Keep.of_grown G2.out (fun k e => by cases e; rfl))⟩
    · simp only [rdF]; rw [← HTX.out]
    · have := HO.out.lt k (by rw [ownBlock_blk]; exact e); exact ⟨Nat.le_trans HS1.out this.1, this.2⟩
    · simp only [rdF]; rw [← HTX.out]; exact H2.out

set_option maxHeartbeats 2000000 in
theorem rtake_data {w : World} {R B : Nat} {st : Rst} {cs : List Value} {t : TypeId} (i : Nat) {u : Value} (h : RAt w R st.1 st.2) (hl : st.1.length ≤ 140737488355328) (hB : w.heap[B]? = some (.cells cs.toArray t (0, 0))) (hi : cs[i]? = some u) (hRB : R < B) :
    Calls Tryz.prog 82 #[.pointer (some ⟨B, i, none⟩), (.func (.func 83) #[.agg #[.pointer (some ⟨R, 0, none⟩)]] #[])] w (fun en w' => en = .returned (.tuple #[]) ∧ ∃ v, TkP .data R B w st cs t i v w') := by
  have C := hid (rdata_any h hl)
  have HB := hid hB
  have HI := hid hi
  clear hB hi h
  go_enter Tryz.func82, Tryz.ntmps82
  go_wp2_with (first | (go_at_call 83; refine C.out.mono ?_; rintro en w2 ⟨v, rfl, hv⟩; obtain ⟨y0, y1, y2, rfl⟩ := form_data (EncN.enc _ hv.1); have HV := hid hv; obtain ⟨z0, z1⟩ := row_at ((hv.2.2.block B (lt_of_block HB.out) (fun e => by have e9 : B = R := e; omega)).trans HB.out) HI.out; clear hv))
  go_end0
  exact ⟨rfl, _, HV.out.store HB.out hRB i⟩

set_option maxHeartbeats 2000000 in
theorem rtake_errno {w : World} {R B : Nat} {st : Rst} {cs : List Value} {t : TypeId} (i : Nat) {u : Value} (h : RAt w R st.1 st.2) (hl : st.1.length ≤ 140737488355328) (hB : w.heap[B]? = some (.cells cs.toArray t (0, 0))) (hi : cs[i]? = some u) (hRB : R < B) :
    Calls Tryz.prog 113 #[.pointer (some ⟨B, i, none⟩), (.func (.func 114) #[.agg #[.pointer (some ⟨R, 0, none⟩)]] #[])] w (fun en w' => en = .returned (.tuple #[]) ∧ ∃ v, TkP .int R B w st cs t i v w') := by
  have C := hid (rerrno_any h)
  have HB := hid hB
  have HI := hid hi
  clear hB hi h
  go_enter Tryz.func113, Tryz.ntmps113
  go_wp2_with (first | (go_at_call 114; refine C.out.mono ?_; rintro en w2 ⟨v, rfl, hv⟩; obtain ⟨y0, rfl⟩ := form_int (EncN.enc _ hv.1); have HV := hid hv; obtain ⟨z0, z1⟩ := row_at ((hv.2.2.block B (lt_of_block HB.out) (fun e => by have e9 : B = R := e; omega)).trans HB.out) HI.out; clear hv))
  go_end0
  exact ⟨rfl, _, HV.out.store HB.out hRB i⟩

set_option maxHeartbeats 2000000 in
theorem rtake_num9 {w : World} {R B : Nat} {st : Rst} {cs : List Value} {t : TypeId} (i : Nat) {u : Value} (h : RAt w R st.1 st.2) (hl : st.1.length ≤ 140737488355328) (hB : w.heap[B]? = some (.cells cs.toArray t (0, 0))) (hi : cs[i]? = some u) (hRB : R < B) :
    Calls Tryz.prog 80 #[.pointer (some ⟨B, i, none⟩), (.func (.func 81) #[.pointer (some ⟨R, 0, none⟩)] #[])] w (fun en w' => en = .returned (.tuple #[]) ∧ ∃ v, TkP .num R B w st cs t i v w') := by
  have C := hid (rnum9_any h)
  have HB := hid hB
  have HI := hid hi
  clear hB hi h
  go_enter Tryz.func80, Tryz.ntmps80
  go_wp2_with (first | (go_at_call 81; refine C.out.mono ?_; rintro en w2 ⟨v, rfl, hv⟩; obtain ⟨y0, rfl⟩ := form_num (EncN.enc _ hv.1); have HV := hid hv; obtain ⟨z0, z1⟩ := row_at ((hv.2.2.block B (lt_of_block HB.out) (fun e => by have e9 : B = R := e; omega)).trans HB.out) HI.out; clear hv))
  go_end0
  exact ⟨rfl, _, HV.out.store HB.out hRB i⟩

set_option maxHeartbeats 2000000 in
theorem rtake_int9 {w : World} {R B : Nat} {st : Rst} {cs : List Value} {t : TypeId} (i : Nat) {u : Value} (h : RAt w R st.1 st.2) (hl : st.1.length ≤ 140737488355328) (hB : w.heap[B]? = some (.cells cs.toArray t (0, 0))) (hi : cs[i]? = some u) (hRB : R < B) :
    Calls Tryz.prog 208 #[.pointer (some ⟨B, i, none⟩), (.func (.func 165) #[.pointer (some ⟨R, 0, none⟩)] #[])] w (fun en w' => en = .returned (.tuple #[]) ∧ ∃ v, TkP .int R B w st cs t i v w') := by
  have C := hid (rint9_any h)
  have HB := hid hB
  have HI := hid hi
  clear hB hi h
  go_enter Tryz.func208, Tryz.ntmps208
  go_wp2_with (first | (go_at_call 165; refine C.out.mono ?_; rintro en w2 ⟨v, rfl, hv⟩; obtain ⟨y0, rfl⟩ := form_int (EncN.enc _ hv.1); have HV := hid hv; obtain ⟨z0, z1⟩ := row_at ((hv.2.2.block B (lt_of_block HB.out) (fun e => by have e9 : B = R := e; omega)).trans HB.out) HI.out; clear hv))
  go_end0
  exact ⟨rfl, _, HV.out.store HB.out hRB i⟩

set_option maxHeartbeats 8000000 in
theorem rlist_data {w : World} {R B : Nat} {st : Rst} {cs : List Value} {t : TypeId} (i : Nat) (h : RAt w R st.1 st.2) (hl : st.1.length ≤ 140737488355328) (hB : w.heap[B]? = some (.cells cs.toArray t (0, 0))) (hi : cs[i]? = some (.slice none 0 0)) (hRB : R < B) :
    Calls Tryz.prog 179 #[.agg #[.pointer (some ⟨R, 0, none⟩)], .pointer (some ⟨B, i, none⟩), (.func (.func 83) #[.agg #[.pointer (some ⟨R, 0, none⟩)]] #[])] w (fun en w' => en = .returned (.tuple #[]) ∧ ∃ v, TkP (.list .data) R B w st cs t i v w') := by
  obtain ⟨i0, hi0, hz0, hz1, hz2⟩ : ∃ i0, Tryz.prog.info? 22 = some i0 ∧ i0.zero = some (.slice none 0 0) ∧ i0.size = 1 ∧ i0.bytes = 24 := by
    have h9 : (Tryz.prog.info? 22).map (fun i => (i.zero, i.size, i.bytes)) = some (some (.slice none 0 0), 1, 24) := by kernel_rfl
    cases hq : Tryz.prog.info? 22 with
    | none => rw [hq] at h9; cases h9
    | some q => rw [hq] at h9; simp at h9; exact ⟨q, rfl, h9⟩
  have HI0 := hid (And.intro hi0 (And.intro hz0 (And.intro hz1 hz2)))
  clear hi0 hz0 hz1 hz2
  have hb : Below w.heap.size w (w.alloc (.cells #[.pointer (some ⟨R, 0, none⟩)] 85)) := (Below.refl _ _).alloc (Nat.le_refl _) _
  have hz := heap_alloc_new w (.cells #[.pointer (some ⟨R, 0, none⟩)] 85)
  have hRw := h.lt
  have hBw := lt_of_block hB
  have HRW := hid hRw
  have HBW := hid hBw
  have H := hid (h.old hb)
  have HB := hid hb
  have HF := hid ((hb.block _ hBw).trans hB)
  have HI := hid hi
  have HZ := hid hz
  have HLE := hid hl
  clear h hB hi hb hz hl
  go_enter Tryz.func179, Tryz.ntmps179
  go_upto_region 1 with fail
  generalize w.alloc (.cells #[.pointer (some ⟨R, 0, none⟩)] 85) = w1 at *
  obtain ⟨z0, z1⟩ := one_cell HZ.out
  obtain ⟨n, hn⟩ : ∃ n, n = (lookS 5000 st.1 st.2).1 := ⟨_, rfl⟩
  obtain ⟨s1, hs1⟩ : ∃ s1 : Rst, s1 = (st.1.drop (lookS 5000 st.1 st.2).2.1, (lookS 5000 st.1 st.2).2.2) := ⟨_, rfl⟩
  have HN := hid (And.intro hn hs1)
  have hn5 : n ≤ 5000 := by rw [hn]; exact lookS_most _ _ _
  have C0 : Hid (Calls Tryz.prog 166 #[.pointer (some ⟨R, 0, none⟩), .int .i64 5000] w1 (fun en w' => en = .returned (.int .i64 (n : Int)) ∧ RAt w' R s1.1 s1.2 ∧ w1.grownBy w' (some R))) := hid ((smallR_any w1 R st.1 st.2 5000 (by decide) H.out).mono (fun en w9 h9 => by rw [hn, hs1]; exact h9))
  have HS1 : Hid (s1.1.length ≤ st.1.length) := hid (by rw [hs1]; simp)
  clear hn hs1
  go_wp2_with (first | (go_at_call 166; refine C0.out.mono ?_; rintro en w2 ⟨rfl, h2, g2⟩; have H2 := hid h2; have K2 := hid (show Keep (fun j => j = R ∨ j = B) w w2 from (Keep.of_below HB.out).trans ((Keep.of_grown (X := fun j => j = R) g2 (fun j e => by cases e; rfl)).mono (fun j _ e => .inl e))); have HF2 := hid ((g2.block B (lt_of_block HF.out) (fun e => by cases e; omega)).trans HF.out); have HZ2 := hid ((g2.block w.heap.size (lt_of_block HZ.out) (fun e => by cases e; omega)).trans HZ.out); clear h2 g2))
  clear z0 z1 C0
  go_loopw [9] (fun ix wr => ∃ (k : Nat) (M : List (List Value × List UInt8)) (ao : Option Addr) (c : Nat) (sk : Rst), ix = .int .i64 (k : Int) ∧ wr.heap[w.heap.size]? = some (.cells #[.pointer (some ⟨R, 0, none⟩)] 85 (0, 0)) ∧ TLp .data 22 R B i w cs t n s1 wr k M ao c sk) (fun ix _ => n - (intOf ix).toNat)
  case atStart => exact ⟨0, [], none, 0, s1, rfl, HZ2.out, TLp.begin HI.out HF2.out H2.out K2.out⟩
  case round =>
    obtain ⟨k, M, ao, c, sk, rfl, hzr, ht⟩ := hrel
    have hk := ht.le
    have HT := hid ht
    have HZR := hid hzr
    clear ht hzr
    by_cases hlt : k < n
    · have hki : (k : Int) < (n : Int) := by omega
      go_upto_region 3 with fail
      have hWd : Below wr.heap.size wr wr.drew := ⟨rfl, rfl, rfl, Nat.le_refl _, fun _ _ => rfl⟩
      have HLk : Hid (sk.1.length ≤ 140737488355328) := hid (by have := HT.out.small; have := HS1.out; have := HLE.out; omega)
      have HTd : Hid (RAt wr.drew R sk.1 sk.2) := hid (HT.out.rat.old hWd)
      have HFd : Hid (wr.drew.heap[B]? = some (.cells (cs.set i (.slice ao k c)).toArray t (0, 0))) := HT.out.field
      have hli : (cs.set i (.slice ao k c))[i]? = some (.slice ao k c) := List.getElem?_set_self (List.getElem?_eq_some_iff.1 HI.out).1
      have HLI := hid hli
      clear hli
      have CN := hid (rdata_any HTd.out HLk.out)
      have HUD : Hid (∀ mc w9, RdP .data R wr.drew sk mc w9 → RdP .data R wr sk mc w9) := hid fun _ _ h => h.undrew
      have HZd : Hid (wr.drew.heap[w.heap.size]? = some (.cells #[.pointer (some ⟨R, 0, none⟩)] 85 (0, 0))) := HZR.out
      refine wp_region_noPanic ?_
      refine wp_region_held_drew (S := fun _ => Hid True) (by kernel_rfl) (hid trivial) (fun hHeld => ?_)
      clear hWd
      obtain ⟨d0, d1⟩ := row_at HFd.out HLI.out
      generalize wr.drew = Wd at *
      have HD0 := hid d0
      clear d0 d1
      refine wpAnyH_take (i := 0) (v := (.pointer (some ⟨B, i, none⟩))) rfl (by kernel_rfl) (by kernel_rfl) (by kernel_rfl) (fun _ _ _ h => (show False from h).elim) ?xyRLdata1 ?xhRLdata1 ?xrRLdata1
      case xhRLdata1 => exact hHeld
      case xyRLdata1 => exact Or.inl ⟨by rfl, fun W9 hW => by clear hHeld; simp only [List.getElem_toArray, List.getElem_cons_succ, List.getElem_cons_zero]; go_simp⟩
      simp only [Act.put, List.getElem_toArray, List.getElem_cons_succ, List.getElem_cons_zero, List.setIfInBounds_toArray, List.set_cons_succ, List.set_cons_zero]
      refine wpAnyH_take (i := 1) (v := (.pointer (some ⟨B, i, none⟩))) rfl (by kernel_rfl) (by kernel_rfl) (by kernel_rfl) (fun _ _ _ h => (show False from h).elim) ?xyRLdata2 ?xhRLdata2 ?xrRLdata2
      case xhRLdata2 => exact hHeld
      case xyRLdata2 => exact Or.inl ⟨by rfl, fun W9 hW => by clear hHeld; simp only [List.getElem_toArray, List.getElem_cons_succ, List.getElem_cons_zero]; go_simp⟩
      simp only [Act.put, List.getElem_toArray, List.getElem_cons_succ, List.getElem_cons_zero, List.setIfInBounds_toArray, List.set_cons_succ, List.set_cons_zero]
      refine wpAnyH_take (i := 2) (v := (.pointer (some ⟨B, i, none⟩))) rfl (by kernel_rfl) (by kernel_rfl) (by kernel_rfl) (fun _ _ _ h => (show False from h).elim) ?xyRLdata3 ?xhRLdata3 ?xrRLdata3
      case xhRLdata3 => exact hHeld
      case xyRLdata3 => exact Or.inl ⟨by rfl, fun W9 hW => by clear hHeld; simp only [List.getElem_toArray, List.getElem_cons_succ, List.getElem_cons_zero]; go_simp⟩
      simp only [Act.put, List.getElem_toArray, List.getElem_cons_succ, List.getElem_cons_zero, List.setIfInBounds_toArray, List.set_cons_succ, List.set_cons_zero]
      refine wpAnyH_take (i := 4) (v := (.func (.func 83) #[.agg #[.pointer (some ⟨R, 0, none⟩)]] #[])) rfl (by kernel_rfl) (by kernel_rfl) (by kernel_rfl) (fun _ _ _ h => (show False from h).elim) ?xyRLdata4 ?xhRLdata4 ?xrRLdata4
      case xhRLdata4 => exact hHeld
      case xyRLdata4 => exact Or.inl ⟨by rfl, fun W9 hW => by clear hHeld; simp only [List.getElem_toArray, List.getElem_cons_succ, List.getElem_cons_zero]; go_simp⟩
      simp only [Act.put, List.getElem_toArray, List.getElem_cons_succ, List.getElem_cons_zero, List.setIfInBounds_toArray, List.set_cons_succ, List.set_cons_zero]
      refine wpAnyH_ready (rs := [3, 5]) (by kernel_rfl) (by simp) ?_
      refine AllReadyH.cons rfl (fun K hK => ?_) (AllReadyH.cons rfl (fun K hK => ?_) AllReadyH.nil)
      · have d0 := HD0.out
        go_simp
        refine hK.out _ _ (hid trivial) (fun hHeld => ?_)
        clear hK K d0
        refine wpAnyH_ready (rs := [5]) (by kernel_rfl) (by simp) ?_
        refine AllReadyH.cons rfl (fun K hK => ?_) AllReadyH.nil
        go_simp
        go_wp2_with (first | (go_at_call 83; refine CN.out.mono ?_; rintro en wT ⟨v, rfl, hv⟩; obtain ⟨y0, j0, c0, rfl⟩ := form_data (EncN.enc _ hv.1); have HV := hid (HUD.out _ _ hv); have HZT := hid ((hv.2.2.block w.heap.size (lt_of_block HZd.out) (fun e => by have e9 : w.heap.size = R := e; omega)).trans HZd.out); have HFT := hid ((hv.2.2.block B (lt_of_block HFd.out) (fun e => by have e9 : B = R := e; omega)).trans HFd.out); have hdT := (World.cell?_of_block (w := Wd) (w' := wT) (a := ⟨B, i, none⟩) (hv.2.2.block B (lt_of_block HFd.out) (fun e => by have e9 : B = R := e; omega))).trans HD0.out; have HDT := hid hdT; clear hv hdT))
        refine hK.out _ _ (hid trivial) (fun hHeld => ?_)
        clear hK K
        have H3 : Hid (Below wT.heap.size wT (wT.alloc (.cells #[.slice y0 j0 c0] 22))) := hid ((Below.refl _ _).alloc (Nat.le_refl _) _)
        have HR3 := hid (heap_alloc_new wT (.cells #[.slice y0 j0 c0] 22))
        have HOW : Hid ((wT.alloc (.cells #[.slice y0 j0 c0] 22)).ownsRow (w.heap.size + 1) 22 1 (.slice ao k c) k (M.map (·.1)).flatten) := hid (own_old (own_keep (X := fun j => j = R) HT.out.own (show Keep _ wr wT from HV.out.2.2) (fun j e e9 => by have e8 : j = R := e9; have := (HT.out.own.lt j e).1; omega)) H3.out)
        have HSZ : Hid (w.heap.size + 1 ≤ (wT.alloc (.cells #[.slice y0 j0 c0] 22)).heap.size) := hid (by have := lt_of_block HZT.out; have := H3.out.size; show _ ≤ _; omega)
        refine wpAnyH_ready (rs := [6]) (by kernel_rfl) (by simp) ?_
        refine AllReadyH.cons rfl (fun K hK => ?_) AllReadyH.nil
        go_simp
        refine hK.out _ _ (hid trivial) (fun hHeld => ?_)
        clear hK K
        refine wpAnyH_ready (rs := [7]) (by kernel_rfl) (by simp) ?_
        refine AllReadyH.cons rfl (fun K hK => ?_) AllReadyH.nil
        refine step_app1 (by rfl) (.tmp 14) (.tmp 17) 133 (by rfl) (w.heap.size + 1) 22 Tryz.underlying133 HI0.out.1 HI0.out.2.1 HI0.out.2.2.1 HI0.out.2.2.2 (by simp [Value.cells]) (by decide) _ k _ (by rfl) HOW.out wT.heap.size [.slice y0 j0 c0] (by rfl) HR3.out rfl (fun u hu => by simp only [List.mem_cons, List.not_mem_nil, or_false] at hu; subst hu; rfl) (by omega) (by decide) HSZ.out (fun g cap w' o5 g5 gg5 => ?_)
        have HF4 : Hid (w'.heap[B]? = some (.cells (cs.set i (.slice ao k c)).toArray t (0, 0))) := hid (heap_kept g5 ((H3.out.block B (lt_of_block HFT.out)).trans HFT.out) (fun e => by have := (HT.out.own.lt B e.symm).1; omega))
        have HZ5 : Hid ((w'.setCell ⟨B, i, none⟩ (.slice (some ⟨g, 0, none⟩) (k + 1) cap)).heap[w.heap.size]? = some (.cells #[.pointer (some ⟨R, 0, none⟩)] 85 (0, 0))) := hid (heap_kept (grown_set w' ⟨B, i, none⟩ _) (heap_kept g5 ((H3.out.block _ (lt_of_block HZT.out)).trans HZT.out) (fun e => by have := (HT.out.own.lt _ e.symm).1; omega)) (fun e => by have e9 : w.heap.size = B := (by simpa using e); exact Nat.lt_irrefl _ (Nat.lt_of_lt_of_le HBW.out (Nat.le_of_eq e9))))
        have HNX := hid (HT.out.next HRW.out HBW.out hRB hlt (show RdP .data R wr sk [.slice y0 j0 c0] wT from HV.out) H3.out o5 g5 gg5)
        clear o5 g5 gg5
        refine hK.out _ _ (hid trivial) (fun hHeld => ?_)
        clear hK K
        simp only [Act.put, List.getElem_toArray, List.getElem_cons_succ, List.getElem_cons_zero, List.setIfInBounds_toArray, List.set_cons_succ, List.set_cons_zero]
        refine wpAnyH_take (i := 8) (v := (.pointer (some ⟨B, i, none⟩))) rfl (by kernel_rfl) (by kernel_rfl) (by kernel_rfl) (fun _ _ _ h => (show False from h).elim) ?xyRLdata5 ?xhRLdata5 ?xrRLdata5
        case xhRLdata5 => exact hHeld
        case xyRLdata5 => exact Or.inl ⟨by rfl, fun W9 hW => by clear hHeld; simp only [List.getElem_toArray, List.getElem_cons_succ, List.getElem_cons_zero]; go_simp⟩
        simp only [Act.put, List.getElem_toArray, List.getElem_cons_succ, List.getElem_cons_zero, List.setIfInBounds_toArray, List.set_cons_succ, List.set_cons_zero]
        obtain ⟨q0, q1⟩ := row_at HF4.out HLI.out
        refine wpAnyH_ready (rs := [9]) (by kernel_rfl) (by simp) ?_
        refine AllReadyH.cons rfl (fun K hK => ?_) AllReadyH.nil
        go_simp
        refine hK.out _ _ (hid trivial) (fun hHeld => ?_)
        clear hK K
        refine wpAnyH_done (by kernel_rfl) ?_ _
        refine NoPanic.normal ?_
        clear q0 q1
        generalize w'.setCell ⟨B, i, none⟩ (.slice (some ⟨g, 0, none⟩) (k + 1) cap) = w5 at *
        obtain ⟨p0, p1⟩ := one_cell HZ5.out
        have CE := hid (err_any w5 R _ _ HNX.out.1)
        obtain ⟨ev, hev⟩ : ∃ ev, ev = (rdF .data sk).2.2 := ⟨_, rfl⟩
        rw [← hev] at CE
        by_cases h0 : ev = 0
        · have HNE := hid (HNX.out.2.1 (by rw [← hev]; exact h0))
          subst h0
          clear hev
          go_wp2_with (first | (go_at_call 158; refine CE.out.mono ?_; rintro en w6 ⟨rfl, rfl⟩))
          go_roundw
          case rel => exact ⟨k + 1, _, _, _, _, by go_num, HZ5.out, HNE.out⟩
          case measure => simp [intOf]; omega
        · have HNE := hid (HNX.out.2.2 (by rw [← hev]; exact h0) hn5)
          have hbe : (ev != 0) = true := by simp [h0]
          clear hev
          go_wp2_with (first | (go_at_call 158; refine CE.out.mono ?_; rintro en w6 ⟨rfl, rfl⟩))
          (try simp only [Exit.inBlock, Exit.then]); refine bodyPost_ret (results_none rfl _ _ _) rfl ?_
          obtain ⟨m1, m2, m3, m4⟩ := HNE.out
          refine ⟨rfl, .slice (some ⟨g, 0, none⟩) (k + 1) cap, ?_, m2, ?_, m4⟩
          · simp only [rdF]; rw [← HN.out.1, ← HN.out.2]; exact m1
          · simp only [rdF]; rw [← HN.out.1, ← HN.out.2]; exact m3
      · go_simp
        go_wp2_with (first | (go_at_call 83; refine CN.out.mono ?_; rintro en wT ⟨v, rfl, hv⟩; obtain ⟨y0, j0, c0, rfl⟩ := form_data (EncN.enc _ hv.1); have HV := hid (HUD.out _ _ hv); have HZT := hid ((hv.2.2.block w.heap.size (lt_of_block HZd.out) (fun e => by have e9 : w.heap.size = R := e; omega)).trans HZd.out); have HFT := hid ((hv.2.2.block B (lt_of_block HFd.out) (fun e => by have e9 : B = R := e; omega)).trans HFd.out); have hdT := (World.cell?_of_block (w := Wd) (w' := wT) (a := ⟨B, i, none⟩) (hv.2.2.block B (lt_of_block HFd.out) (fun e => by have e9 : B = R := e; omega))).trans HD0.out; have HDT := hid hdT; clear hv hdT))
        refine hK.out _ _ (hid trivial) (fun hHeld => ?_)
        clear hK K
        have H3 : Hid (Below wT.heap.size wT (wT.alloc (.cells #[.slice y0 j0 c0] 22))) := hid ((Below.refl _ _).alloc (Nat.le_refl _) _)
        have HR3 := hid (heap_alloc_new wT (.cells #[.slice y0 j0 c0] 22))
        have HOW : Hid ((wT.alloc (.cells #[.slice y0 j0 c0] 22)).ownsRow (w.heap.size + 1) 22 1 (.slice ao k c) k (M.map (·.1)).flatten) := hid (own_old (own_keep (X := fun j => j = R) HT.out.own (show Keep _ wr wT from HV.out.2.2) (fun j e e9 => by have e8 : j = R := e9; have := (HT.out.own.lt j e).1; omega)) H3.out)
        have HSZ : Hid (w.heap.size + 1 ≤ (wT.alloc (.cells #[.slice y0 j0 c0] 22)).heap.size) := hid (by have := lt_of_block HZT.out; have := H3.out.size; show _ ≤ _; omega)
        refine wpAnyH_ready (rs := [3, 6]) (by kernel_rfl) (by simp) ?_
        refine AllReadyH.cons rfl (fun K hK => ?_) (AllReadyH.cons rfl (fun K hK => ?_) AllReadyH.nil)
        · have d1 := HDT.out
          go_simp
          refine hK.out _ _ (hid trivial) (fun hHeld => ?_)
          clear hK K d1
          refine wpAnyH_ready (rs := [6]) (by kernel_rfl) (by simp) ?_
          refine AllReadyH.cons rfl (fun K hK => ?_) AllReadyH.nil
          go_simp
          refine hK.out _ _ (hid trivial) (fun hHeld => ?_)
          clear hK K
          refine wpAnyH_ready (rs := [7]) (by kernel_rfl) (by simp) ?_
          refine AllReadyH.cons rfl (fun K hK => ?_) AllReadyH.nil
          refine step_app1 (by rfl) (.tmp 14) (.tmp 17) 133 (by rfl) (w.heap.size + 1) 22 Tryz.underlying133 HI0.out.1 HI0.out.2.1 HI0.out.2.2.1 HI0.out.2.2.2 (by simp [Value.cells]) (by decide) _ k _ (by rfl) HOW.out wT.heap.size [.slice y0 j0 c0] (by rfl) HR3.out rfl (fun u hu => by simp only [List.mem_cons, List.not_mem_nil, or_false] at hu; subst hu; rfl) (by omega) (by decide) HSZ.out (fun g cap w' o5 g5 gg5 => ?_)
          have HF4 : Hid (w'.heap[B]? = some (.cells (cs.set i (.slice ao k c)).toArray t (0, 0))) := hid (heap_kept g5 ((H3.out.block B (lt_of_block HFT.out)).trans HFT.out) (fun e => by have := (HT.out.own.lt B e.symm).1; omega))
          have HZ5 : Hid ((w'.setCell ⟨B, i, none⟩ (.slice (some ⟨g, 0, none⟩) (k + 1) cap)).heap[w.heap.size]? = some (.cells #[.pointer (some ⟨R, 0, none⟩)] 85 (0, 0))) := hid (heap_kept (grown_set w' ⟨B, i, none⟩ _) (heap_kept g5 ((H3.out.block _ (lt_of_block HZT.out)).trans HZT.out) (fun e => by have := (HT.out.own.lt _ e.symm).1; omega)) (fun e => by have e9 : w.heap.size = B := (by simpa using e); exact Nat.lt_irrefl _ (Nat.lt_of_lt_of_le HBW.out (Nat.le_of_eq e9))))
          have HNX := hid (HT.out.next HRW.out HBW.out hRB hlt (show RdP .data R wr sk [.slice y0 j0 c0] wT from HV.out) H3.out o5 g5 gg5)
          clear o5 g5 gg5
          refine hK.out _ _ (hid trivial) (fun hHeld => ?_)
          clear hK K
          simp only [Act.put, List.getElem_toArray, List.getElem_cons_succ, List.getElem_cons_zero, List.setIfInBounds_toArray, List.set_cons_succ, List.set_cons_zero]
          refine wpAnyH_take (i := 8) (v := (.pointer (some ⟨B, i, none⟩))) rfl (by kernel_rfl) (by kernel_rfl) (by kernel_rfl) (fun _ _ _ h => (show False from h).elim) ?xyRLdata6 ?xhRLdata6 ?xrRLdata6
          case xhRLdata6 => exact hHeld
          case xyRLdata6 => exact Or.inl ⟨by rfl, fun W9 hW => by clear hHeld; simp only [List.getElem_toArray, List.getElem_cons_succ, List.getElem_cons_zero]; go_simp⟩
          simp only [Act.put, List.getElem_toArray, List.getElem_cons_succ, List.getElem_cons_zero, List.setIfInBounds_toArray, List.set_cons_succ, List.set_cons_zero]
          obtain ⟨q0, q1⟩ := row_at HF4.out HLI.out
          refine wpAnyH_ready (rs := [9]) (by kernel_rfl) (by simp) ?_
          refine AllReadyH.cons rfl (fun K hK => ?_) AllReadyH.nil
          go_simp
          refine hK.out _ _ (hid trivial) (fun hHeld => ?_)
          clear hK K
          refine wpAnyH_done (by kernel_rfl) ?_ _
          refine NoPanic.normal ?_
          clear q0 q1
          generalize w'.setCell ⟨B, i, none⟩ (.slice (some ⟨g, 0, none⟩) (k + 1) cap) = w5 at *
          obtain ⟨p0, p1⟩ := one_cell HZ5.out
          have CE := hid (err_any w5 R _ _ HNX.out.1)
          obtain ⟨ev, hev⟩ : ∃ ev, ev = (rdF .data sk).2.2 := ⟨_, rfl⟩
          rw [← hev] at CE
          by_cases h0 : ev = 0
          · have HNE := hid (HNX.out.2.1 (by rw [← hev]; exact h0))
            subst h0
            clear hev
            go_wp2_with (first | (go_at_call 158; refine CE.out.mono ?_; rintro en w6 ⟨rfl, rfl⟩))
            go_roundw
            case rel => exact ⟨k + 1, _, _, _, _, by go_num, HZ5.out, HNE.out⟩
            case measure => simp [intOf]; omega
          · have HNE := hid (HNX.out.2.2 (by rw [← hev]; exact h0) hn5)
            have hbe : (ev != 0) = true := by simp [h0]
            clear hev
            go_wp2_with (first | (go_at_call 158; refine CE.out.mono ?_; rintro en w6 ⟨rfl, rfl⟩))
            (try simp only [Exit.inBlock, Exit.then]); refine bodyPost_ret (results_none rfl _ _ _) rfl ?_
            obtain ⟨m1, m2, m3, m4⟩ := HNE.out
            refine ⟨rfl, .slice (some ⟨g, 0, none⟩) (k + 1) cap, ?_, m2, ?_, m4⟩
            · simp only [rdF]; rw [← HN.out.1, ← HN.out.2]; exact m1
            · simp only [rdF]; rw [← HN.out.1, ← HN.out.2]; exact m3
        · skip
          go_simp
          refine hK.out _ _ (hid trivial) (fun hHeld => ?_)
          clear hK K
          have d2 := (World.cell?_of_block (w := wT) (w' := wT.alloc (.cells #[.slice y0 j0 c0] 22)) (a := ⟨B, i, none⟩) (H3.out.block B (lt_of_block HFT.out))).trans HDT.out
          refine wpAnyH_ready (rs := [3]) (by kernel_rfl) (by simp) ?_
          refine AllReadyH.cons rfl (fun K hK => ?_) AllReadyH.nil
          go_simp
          refine hK.out _ _ (hid trivial) (fun hHeld => ?_)
          clear hK K
          clear d2
          refine wpAnyH_ready (rs := [7]) (by kernel_rfl) (by simp) ?_
          refine AllReadyH.cons rfl (fun K hK => ?_) AllReadyH.nil
          refine step_app1 (by rfl) (.tmp 14) (.tmp 17) 133 (by rfl) (w.heap.size + 1) 22 Tryz.underlying133 HI0.out.1 HI0.out.2.1 HI0.out.2.2.1 HI0.out.2.2.2 (by simp [Value.cells]) (by decide) _ k _ (by rfl) HOW.out wT.heap.size [.slice y0 j0 c0] (by rfl) HR3.out rfl (fun u hu => by simp only [List.mem_cons, List.not_mem_nil, or_false] at hu; subst hu; rfl) (by omega) (by decide) HSZ.out (fun g cap w' o5 g5 gg5 => ?_)
          have HF4 : Hid (w'.heap[B]? = some (.cells (cs.set i (.slice ao k c)).toArray t (0, 0))) := hid (heap_kept g5 ((H3.out.block B (lt_of_block HFT.out)).trans HFT.out) (fun e => by have := (HT.out.own.lt B e.symm).1; omega))
          have HZ5 : Hid ((w'.setCell ⟨B, i, none⟩ (.slice (some ⟨g, 0, none⟩) (k + 1) cap)).heap[w.heap.size]? = some (.cells #[.pointer (some ⟨R, 0, none⟩)] 85 (0, 0))) := hid (heap_kept (grown_set w' ⟨B, i, none⟩ _) (heap_kept g5 ((H3.out.block _ (lt_of_block HZT.out)).trans HZT.out) (fun e => by have := (HT.out.own.lt _ e.symm).1; omega)) (fun e => by have e9 : w.heap.size = B := (by simpa using e); exact Nat.lt_irrefl _ (Nat.lt_of_lt_of_le HBW.out (Nat.le_of_eq e9))))
          have HNX := hid (HT.out.next HRW.out HBW.out hRB hlt (show RdP .data R wr sk [.slice y0 j0 c0] wT from HV.out) H3.out o5 g5 gg5)
          clear o5 g5 gg5
          refine hK.out _ _ (hid trivial) (fun hHeld => ?_)
          clear hK K
          simp only [Act.put, List.getElem_toArray, List.getElem_cons_succ, List.getElem_cons_zero, List.setIfInBounds_toArray, List.set_cons_succ, List.set_cons_zero]
          refine wpAnyH_take (i := 8) (v := (.pointer (some ⟨B, i, none⟩))) rfl (by kernel_rfl) (by kernel_rfl) (by kernel_rfl) (fun _ _ _ h => (show False from h).elim) ?xyRLdata7 ?xhRLdata7 ?xrRLdata7
          case xhRLdata7 => exact hHeld
          case xyRLdata7 => exact Or.inl ⟨by rfl, fun W9 hW => by clear hHeld; simp only [List.getElem_toArray, List.getElem_cons_succ, List.getElem_cons_zero]; go_simp⟩
          simp only [Act.put, List.getElem_toArray, List.getElem_cons_succ, List.getElem_cons_zero, List.setIfInBounds_toArray, List.set_cons_succ, List.set_cons_zero]
          obtain ⟨q0, q1⟩ := row_at HF4.out HLI.out
          refine wpAnyH_ready (rs := [9]) (by kernel_rfl) (by simp) ?_
          refine AllReadyH.cons rfl (fun K hK => ?_) AllReadyH.nil
          go_simp
          refine hK.out _ _ (hid trivial) (fun hHeld => ?_)
          clear hK K
          refine wpAnyH_done (by kernel_rfl) ?_ _
          refine NoPanic.normal ?_
          clear q0 q1
          generalize w'.setCell ⟨B, i, none⟩ (.slice (some ⟨g, 0, none⟩) (k + 1) cap) = w5 at *
          obtain ⟨p0, p1⟩ := one_cell HZ5.out
          have CE := hid (err_any w5 R _ _ HNX.out.1)
          obtain ⟨ev, hev⟩ : ∃ ev, ev = (rdF .data sk).2.2 := ⟨_, rfl⟩
          rw [← hev] at CE
          by_cases h0 : ev = 0
          · have HNE := hid (HNX.out.2.1 (by rw [← hev]; exact h0))
            subst h0
            clear hev
            go_wp2_with (first | (go_at_call 158; refine CE.out.mono ?_; rintro en w6 ⟨rfl, rfl⟩))
            go_roundw
            case rel => exact ⟨k + 1, _, _, _, _, by go_num, HZ5.out, HNE.out⟩
            case measure => simp [intOf]; omega
          · have HNE := hid (HNX.out.2.2 (by rw [← hev]; exact h0) hn5)
            have hbe : (ev != 0) = true := by simp [h0]
            clear hev
            go_wp2_with (first | (go_at_call 158; refine CE.out.mono ?_; rintro en w6 ⟨rfl, rfl⟩))
            (try simp only [Exit.inBlock, Exit.then]); refine bodyPost_ret (results_none rfl _ _ _) rfl ?_
            obtain ⟨m1, m2, m3, m4⟩ := HNE.out
            refine ⟨rfl, .slice (some ⟨g, 0, none⟩) (k + 1) cap, ?_, m2, ?_, m4⟩
            · simp only [rdF]; rw [← HN.out.1, ← HN.out.2]; exact m1
            · simp only [rdF]; rw [← HN.out.1, ← HN.out.2]; exact m3
    · obtain rfl : n = k := by omega
      have hki : ¬ (n : Int) < (n : Int) := by omega
      go_wp2_with fail
      go_end0
      obtain ⟨p1, p2⟩ := HT.out.done hn5
      refine ⟨rfl, .slice ao n c, ?_, HT.out.field, ?_, HT.out.keep⟩
      · simp only [rdF]; rw [← HN.out.1, ← HN.out.2]; exact p1
      · simp only [rdF]; rw [← HN.out.1, ← HN.out.2]; exact p2

set_option maxHeartbeats 8000000 in
theorem rlist_num {w : World} {R B : Nat} {st : Rst} {cs : List Value} {t : TypeId} (i : Nat) (h : RAt w R st.1 st.2) (hl : st.1.length ≤ 140737488355328) (hB : w.heap[B]? = some (.cells cs.toArray t (0, 0))) (hi : cs[i]? = some (.slice none 0 0)) (hRB : R < B) :
    Calls Tryz.prog 115 #[.agg #[.pointer (some ⟨R, 0, none⟩)], .pointer (some ⟨B, i, none⟩), (.func (.func 81) #[.pointer (some ⟨R, 0, none⟩)] #[])] w (fun en w' => en = .returned (.tuple #[]) ∧ ∃ v, TkP (.list .num) R B w st cs t i v w') := by
  obtain ⟨i0, hi0, hz0, hz1, hz2⟩ : ∃ i0, Tryz.prog.info? 25 = some i0 ∧ i0.zero = some (.int .u64 0) ∧ i0.size = 1 ∧ i0.bytes = 8 := by
    have h9 : (Tryz.prog.info? 25).map (fun i => (i.zero, i.size, i.bytes)) = some (some (.int .u64 0), 1, 8) := by kernel_rfl
    cases hq : Tryz.prog.info? 25 with
    | none => rw [hq] at h9; cases h9
    | some q => rw [hq] at h9; simp at h9; exact ⟨q, rfl, h9⟩
  have HI0 := hid (And.intro hi0 (And.intro hz0 (And.intro hz1 hz2)))
  clear hi0 hz0 hz1 hz2
  have hb : Below w.heap.size w (w.alloc (.cells #[.pointer (some ⟨R, 0, none⟩)] 85)) := (Below.refl _ _).alloc (Nat.le_refl _) _
  have hz := heap_alloc_new w (.cells #[.pointer (some ⟨R, 0, none⟩)] 85)
  have hRw := h.lt
  have hBw := lt_of_block hB
  have HRW := hid hRw
  have HBW := hid hBw
  have H := hid (h.old hb)
  have HB := hid hb
  have HF := hid ((hb.block _ hBw).trans hB)
  have HI := hid hi
  have HZ := hid hz
  have HLE := hid hl
  clear h hB hi hb hz hl
  go_enter Tryz.func115, Tryz.ntmps115
  go_upto_region 1 with fail
  generalize w.alloc (.cells #[.pointer (some ⟨R, 0, none⟩)] 85) = w1 at *
  obtain ⟨z0, z1⟩ := one_cell HZ.out
  obtain ⟨n, hn⟩ : ∃ n, n = (lookS 5000 st.1 st.2).1 := ⟨_, rfl⟩
  obtain ⟨s1, hs1⟩ : ∃ s1 : Rst, s1 = (st.1.drop (lookS 5000 st.1 st.2).2.1, (lookS 5000 st.1 st.2).2.2) := ⟨_, rfl⟩
  have HN := hid (And.intro hn hs1)
  have hn5 : n ≤ 5000 := by rw [hn]; exact lookS_most _ _ _
  have C0 : Hid (Calls Tryz.prog 166 #[.pointer (some ⟨R, 0, none⟩), .int .i64 5000] w1 (fun en w' => en = .returned (.int .i64 (n : Int)) ∧ RAt w' R s1.1 s1.2 ∧ w1.grownBy w' (some R))) := hid ((smallR_any w1 R st.1 st.2 5000 (by decide) H.out).mono (fun en w9 h9 => by rw [hn, hs1]; exact h9))
  have HS1 : Hid (s1.1.length ≤ st.1.length) := hid (by rw [hs1]; simp)
  clear hn hs1
  go_wp2_with (first | (go_at_call 166; refine C0.out.mono ?_; rintro en w2 ⟨rfl, h2, g2⟩; have H2 := hid h2; have K2 := hid (show Keep (fun j => j = R ∨ j = B) w w2 from (Keep.of_below HB.out).trans ((Keep.of_grown (X := fun j => j = R) g2 (fun j e => by cases e; rfl)).mono (fun j _ e => .inl e))); have HF2 := hid ((g2.block B (lt_of_block HF.out) (fun e => by cases e; omega)).trans HF.out); have HZ2 := hid ((g2.block w.heap.size (lt_of_block HZ.out) (fun e => by cases e; omega)).trans HZ.out); clear h2 g2))
  clear z0 z1 C0
  go_loopw [9] (fun ix wr => ∃ (k : Nat) (M : List (List Value × List UInt8)) (ao : Option Addr) (c : Nat) (sk : Rst), ix = .int .i64 (k : Int) ∧ wr.heap[w.heap.size]? = some (.cells #[.pointer (some ⟨R, 0, none⟩)] 85 (0, 0)) ∧ TLp .num 25 R B i w cs t n s1 wr k M ao c sk) (fun ix _ => n - (intOf ix).toNat)
  case atStart => exact ⟨0, [], none, 0, s1, rfl, HZ2.out, TLp.begin HI.out HF2.out H2.out K2.out⟩
  case round =>
    obtain ⟨k, M, ao, c, sk, rfl, hzr, ht⟩ := hrel
    have hk := ht.le
    have HT := hid ht
    have HZR := hid hzr
    clear ht hzr
    by_cases hlt : k < n
    · have hki : (k : Int) < (n : Int) := by omega
      go_upto_region 3 with fail
      have hWd : Below wr.heap.size wr wr.drew := ⟨rfl, rfl, rfl, Nat.le_refl _, fun _ _ => rfl⟩
      have HLk : Hid (sk.1.length ≤ 140737488355328) := hid (by have := HT.out.small; have := HS1.out; have := HLE.out; omega)
      have HTd : Hid (RAt wr.drew R sk.1 sk.2) := hid (HT.out.rat.old hWd)
      have HFd : Hid (wr.drew.heap[B]? = some (.cells (cs.set i (.slice ao k c)).toArray t (0, 0))) := HT.out.field
      have hli : (cs.set i (.slice ao k c))[i]? = some (.slice ao k c) := List.getElem?_set_self (List.getElem?_eq_some_iff.1 HI.out).1
      have HLI := hid hli
      clear hli
      have CN := hid (rnum9_any HTd.out)
      have HUD : Hid (∀ mc w9, RdP .num R wr.drew sk mc w9 → RdP .num R wr sk mc w9) := hid fun _ _ h => h.undrew
      have HZd : Hid (wr.drew.heap[w.heap.size]? = some (.cells #[.pointer (some ⟨R, 0, none⟩)] 85 (0, 0))) := HZR.out
      refine wp_region_noPanic ?_
      refine wp_region_held_drew (S := fun _ => Hid True) (by kernel_rfl) (hid trivial) (fun hHeld => ?_)
      clear hWd
      obtain ⟨d0, d1⟩ := row_at HFd.out HLI.out
      generalize wr.drew = Wd at *
      have HD0 := hid d0
      clear d0 d1
      refine wpAnyH_take (i := 0) (v := (.pointer (some ⟨B, i, none⟩))) rfl (by kernel_rfl) (by kernel_rfl) (by kernel_rfl) (fun _ _ _ h => (show False from h).elim) ?xyRLnum1 ?xhRLnum1 ?xrRLnum1
      case xhRLnum1 => exact hHeld
      case xyRLnum1 => exact Or.inl ⟨by rfl, fun W9 hW => by clear hHeld; simp only [List.getElem_toArray, List.getElem_cons_succ, List.getElem_cons_zero]; go_simp⟩
      simp only [Act.put, List.getElem_toArray, List.getElem_cons_succ, List.getElem_cons_zero, List.setIfInBounds_toArray, List.set_cons_succ, List.set_cons_zero]
      refine wpAnyH_take (i := 1) (v := (.pointer (some ⟨B, i, none⟩))) rfl (by kernel_rfl) (by kernel_rfl) (by kernel_rfl) (fun _ _ _ h => (show False from h).elim) ?xyRLnum2 ?xhRLnum2 ?xrRLnum2
      case xhRLnum2 => exact hHeld
      case xyRLnum2 => exact Or.inl ⟨by rfl, fun W9 hW => by clear hHeld; simp only [List.getElem_toArray, List.getElem_cons_succ, List.getElem_cons_zero]; go_simp⟩
      simp only [Act.put, List.getElem_toArray, List.getElem_cons_succ, List.getElem_cons_zero, List.setIfInBounds_toArray, List.set_cons_succ, List.set_cons_zero]
      refine wpAnyH_take (i := 2) (v := (.pointer (some ⟨B, i, none⟩))) rfl (by kernel_rfl) (by kernel_rfl) (by kernel_rfl) (fun _ _ _ h => (show False from h).elim) ?xyRLnum3 ?xhRLnum3 ?xrRLnum3
      case xhRLnum3 => exact hHeld
      case xyRLnum3 => exact Or.inl ⟨by rfl, fun W9 hW => by clear hHeld; simp only [List.getElem_toArray, List.getElem_cons_succ, List.getElem_cons_zero]; go_simp⟩
      simp only [Act.put, List.getElem_toArray, List.getElem_cons_succ, List.getElem_cons_zero, List.setIfInBounds_toArray, List.set_cons_succ, List.set_cons_zero]
      refine wpAnyH_take (i := 4) (v := (.func (.func 81) #[.pointer (some ⟨R, 0, none⟩)] #[])) rfl (by kernel_rfl) (by kernel_rfl) (by kernel_rfl) (fun _ _ _ h => (show False from h).elim) ?xyRLnum4 ?xhRLnum4 ?xrRLnum4
      case xhRLnum4 => exact hHeld
      case xyRLnum4 => exact Or.inl ⟨by rfl, fun W9 hW => by clear hHeld; simp only [List.getElem_toArray, List.getElem_cons_succ, List.getElem_cons_zero]; go_simp⟩
      simp only [Act.put, List.getElem_toArray, List.getElem_cons_succ, List.getElem_cons_zero, List.setIfInBounds_toArray, List.set_cons_succ, List.set_cons_zero]
      refine wpAnyH_ready (rs := [3, 5]) (by kernel_rfl) (by simp) ?_
      refine AllReadyH.cons rfl (fun K hK => ?_) (AllReadyH.cons rfl (fun K hK => ?_) AllReadyH.nil)
      · have d0 := HD0.out
        go_simp
        refine hK.out _ _ (hid trivial) (fun hHeld => ?_)
        clear hK K d0
        refine wpAnyH_ready (rs := [5]) (by kernel_rfl) (by simp) ?_
        refine AllReadyH.cons rfl (fun K hK => ?_) AllReadyH.nil
        go_simp
        go_wp2_with (first | (go_at_call 81; refine CN.out.mono ?_; rintro en wT ⟨v, rfl, hv⟩; obtain ⟨y0, rfl⟩ := form_num (EncN.enc _ hv.1); have HV := hid (HUD.out _ _ hv); have HZT := hid ((hv.2.2.block w.heap.size (lt_of_block HZd.out) (fun e => by have e9 : w.heap.size = R := e; omega)).trans HZd.out); have HFT := hid ((hv.2.2.block B (lt_of_block HFd.out) (fun e => by have e9 : B = R := e; omega)).trans HFd.out); have hdT := (World.cell?_of_block (w := Wd) (w' := wT) (a := ⟨B, i, none⟩) (hv.2.2.block B (lt_of_block HFd.out) (fun e => by have e9 : B = R := e; omega))).trans HD0.out; have HDT := hid hdT; clear hv hdT))
        refine hK.out _ _ (hid trivial) (fun hHeld => ?_)
        clear hK K
        have H3 : Hid (Below wT.heap.size wT (wT.alloc (.cells #[.int .u64 (y0 : Int)] 25))) := hid ((Below.refl _ _).alloc (Nat.le_refl _) _)
        have HR3 := hid (heap_alloc_new wT (.cells #[.int .u64 (y0 : Int)] 25))
        have HOW : Hid ((wT.alloc (.cells #[.int .u64 (y0 : Int)] 25)).ownsRow (w.heap.size + 1) 25 1 (.slice ao k c) k (M.map (·.1)).flatten) := hid (own_old (own_keep (X := fun j => j = R) HT.out.own (show Keep _ wr wT from HV.out.2.2) (fun j e e9 => by have e8 : j = R := e9; have := (HT.out.own.lt j e).1; omega)) H3.out)
        have HSZ : Hid (w.heap.size + 1 ≤ (wT.alloc (.cells #[.int .u64 (y0 : Int)] 25)).heap.size) := hid (by have := lt_of_block HZT.out; have := H3.out.size; show _ ≤ _; omega)
        refine wpAnyH_ready (rs := [6]) (by kernel_rfl) (by simp) ?_
        refine AllReadyH.cons rfl (fun K hK => ?_) AllReadyH.nil
        go_simp
        refine hK.out _ _ (hid trivial) (fun hHeld => ?_)
        clear hK K
        refine wpAnyH_ready (rs := [7]) (by kernel_rfl) (by simp) ?_
        refine AllReadyH.cons rfl (fun K hK => ?_) AllReadyH.nil
        refine step_app1 (by rfl) (.tmp 14) (.tmp 17) 46 (by rfl) (w.heap.size + 1) 25 Tryz.underlying46 HI0.out.1 HI0.out.2.1 HI0.out.2.2.1 HI0.out.2.2.2 (by simp [Value.cells]) (by decide) _ k _ (by rfl) HOW.out wT.heap.size [.int .u64 (y0 : Int)] (by rfl) HR3.out rfl (fun u hu => by simp only [List.mem_cons, List.not_mem_nil, or_false] at hu; subst hu; rfl) (by omega) (by decide) HSZ.out (fun g cap w' o5 g5 gg5 => ?_)
        have HF4 : Hid (w'.heap[B]? = some (.cells (cs.set i (.slice ao k c)).toArray t (0, 0))) := hid (heap_kept g5 ((H3.out.block B (lt_of_block HFT.out)).trans HFT.out) (fun e => by have := (HT.out.own.lt B e.symm).1; omega))
        have HZ5 : Hid ((w'.setCell ⟨B, i, none⟩ (.slice (some ⟨g, 0, none⟩) (k + 1) cap)).heap[w.heap.size]? = some (.cells #[.pointer (some ⟨R, 0, none⟩)] 85 (0, 0))) := hid (heap_kept (grown_set w' ⟨B, i, none⟩ _) (heap_kept g5 ((H3.out.block _ (lt_of_block HZT.out)).trans HZT.out) (fun e => by have := (HT.out.own.lt _ e.symm).1; omega)) (fun e => by have e9 : w.heap.size = B := (by simpa using e); exact Nat.lt_irrefl _ (Nat.lt_of_lt_of_le HBW.out (Nat.le_of_eq e9))))
        have HNX := hid (HT.out.next HRW.out HBW.out hRB hlt (show RdP .num R wr sk [.int .u64 (y0 : Int)] wT from HV.out) H3.out o5 g5 gg5)
        clear o5 g5 gg5
        refine hK.out _ _ (hid trivial) (fun hHeld => ?_)
        clear hK K
        simp only [Act.put, List.getElem_toArray, List.getElem_cons_succ, List.getElem_cons_zero, List.setIfInBounds_toArray, List.set_cons_succ, List.set_cons_zero]
        refine wpAnyH_take (i := 8) (v := (.pointer (some ⟨B, i, none⟩))) rfl (by kernel_rfl) (by kernel_rfl) (by kernel_rfl) (fun _ _ _ h => (show False from h).elim) ?xyRLnum5 ?xhRLnum5 ?xrRLnum5
        case xhRLnum5 => exact hHeld
        case xyRLnum5 => exact Or.inl ⟨by rfl, fun W9 hW => by clear hHeld; simp only [List.getElem_toArray, List.getElem_cons_succ, List.getElem_cons_zero]; go_simp⟩
        simp only [Act.put, List.getElem_toArray, List.getElem_cons_succ, List.getElem_cons_zero, List.setIfInBounds_toArray, List.set_cons_succ, List.set_cons_zero]
        obtain ⟨q0, q1⟩ := row_at HF4.out HLI.out
        refine wpAnyH_ready (rs := [9]) (by kernel_rfl) (by simp) ?_
        refine AllReadyH.cons rfl (fun K hK => ?_) AllReadyH.nil
        go_simp
        refine hK.out _ _ (hid trivial) (fun hHeld => ?_)
        clear hK K
        refine wpAnyH_done (by kernel_rfl) ?_ _
        refine NoPanic.normal ?_
        clear q0 q1
        generalize w'.setCell ⟨B, i, none⟩ (.slice (some ⟨g, 0, none⟩) (k + 1) cap) = w5 at *
        obtain ⟨p0, p1⟩ := one_cell HZ5.out
        have CE := hid (err_any w5 R _ _ HNX.out.1)
        obtain ⟨ev, hev⟩ : ∃ ev, ev = (rdF .num sk).2.2 := ⟨_, rfl⟩
        rw [← hev] at CE
        by_cases h0 : ev = 0
        · have HNE := hid (HNX.out.2.1 (by rw [← hev]; exact h0))
          subst h0
          clear hev
          go_wp2_with (first | (go_at_call 158; refine CE.out.mono ?_; rintro en w6 ⟨rfl, rfl⟩))
          go_roundw
          case rel => exact ⟨k + 1, _, _, _, _, by go_num, HZ5.out, HNE.out⟩
          case measure => simp [intOf]; omega
        · have HNE := hid (HNX.out.2.2 (by rw [← hev]; exact h0) hn5)
          have hbe : (ev != 0) = true := by simp [h0]
          clear hev
          go_wp2_with (first | (go_at_call 158; refine CE.out.mono ?_; rintro en w6 ⟨rfl, rfl⟩))
          (try simp only [Exit.inBlock, Exit.then]); refine bodyPost_ret (results_none rfl _ _ _) rfl ?_
          obtain ⟨m1, m2, m3, m4⟩ := HNE.out
          refine ⟨rfl, .slice (some ⟨g, 0, none⟩) (k + 1) cap, ?_, m2, ?_, m4⟩
          · simp only [rdF]; rw [← HN.out.1, ← HN.out.2]; exact m1
          · simp only [rdF]; rw [← HN.out.1, ← HN.out.2]; exact m3
      · go_simp
        go_wp2_with (first | (go_at_call 81; refine CN.out.mono ?_; rintro en wT ⟨v, rfl, hv⟩; obtain ⟨y0, rfl⟩ := form_num (EncN.enc _ hv.1); have HV := hid (HUD.out _ _ hv); have HZT := hid ((hv.2.2.block w.heap.size (lt_of_block HZd.out) (fun e => by have e9 : w.heap.size = R := e; omega)).trans HZd.out); have HFT := hid ((hv.2.2.block B (lt_of_block HFd.out) (fun e => by have e9 : B = R := e; omega)).trans HFd.out); have hdT := (World.cell?_of_block (w := Wd) (w' := wT) (a := ⟨B, i, none⟩) (hv.2.2.block B (lt_of_block HFd.out) (fun e => by have e9 : B = R := e; omega))).trans HD0.out; have HDT := hid hdT; clear hv hdT))
        refine hK.out _ _ (hid trivial) (fun hHeld => ?_)
        clear hK K
        have H3 : Hid (Below wT.heap.size wT (wT.alloc (.cells #[.int .u64 (y0 : Int)] 25))) := hid ((Below.refl _ _).alloc (Nat.le_refl _) _)
        have HR3 := hid (heap_alloc_new wT (.cells #[.int .u64 (y0 : Int)] 25))
        have HOW : Hid ((wT.alloc (.cells #[.int .u64 (y0 : Int)] 25)).ownsRow (w.heap.size + 1) 25 1 (.slice ao k c) k (M.map (·.1)).flatten) := hid (own_old (own_keep (X := fun j => j = R) HT.out.own (show Keep _ wr wT from HV.out.2.2) (fun j e e9 => by have e8 : j = R := e9; have := (HT.out.own.lt j e).1; omega)) H3.out)
        have HSZ : Hid (w.heap.size + 1 ≤ (wT.alloc (.cells #[.int .u64 (y0 : Int)] 25)).heap.size) := hid (by have := lt_of_block HZT.out; have := H3.out.size; show _ ≤ _; omega)
        refine wpAnyH_ready (rs := [3, 6]) (by kernel_rfl) (by simp) ?_
        refine AllReadyH.cons rfl (fun K hK => ?_) (AllReadyH.cons rfl (fun K hK => ?_) AllReadyH.nil)
        · have d1 := HDT.out
          go_simp
          refine hK.out _ _ (hid trivial) (fun hHeld => ?_)
          clear hK K d1
          refine wpAnyH_ready (rs := [6]) (by kernel_rfl) (by simp) ?_
          refine AllReadyH.cons rfl (fun K hK => ?_) AllReadyH.nil
          go_simp
          refine hK.out _ _ (hid trivial) (fun hHeld => ?_)
          clear hK K
          refine wpAnyH_ready (rs := [7]) (by kernel_rfl) (by simp) ?_
          refine AllReadyH.cons rfl (fun K hK => ?_) AllReadyH.nil
          refine step_app1 (by rfl) (.tmp 14) (.tmp 17) 46 (by rfl) (w.heap.size + 1) 25 Tryz.underlying46 HI0.out.1 HI0.out.2.1 HI0.out.2.2.1 HI0.out.2.2.2 (by simp [Value.cells]) (by decide) _ k _ (by rfl) HOW.out wT.heap.size [.int .u64 (y0 : Int)] (by rfl) HR3.out rfl (fun u hu => by simp only [List.mem_cons, List.not_mem_nil, or_false] at hu; subst hu; rfl) (by omega) (by decide) HSZ.out (fun g cap w' o5 g5 gg5 => ?_)
          have HF4 : Hid (w'.heap[B]? = some (.cells (cs.set i (.slice ao k c)).toArray t (0, 0))) := hid (heap_kept g5 ((H3.out.block B (lt_of_block HFT.out)).trans HFT.out) (fun e => by have := (HT.out.own.lt B e.symm).1; omega))
          have HZ5 : Hid ((w'.setCell ⟨B, i, none⟩ (.slice (some ⟨g, 0, none⟩) (k + 1) cap)).heap[w.heap.size]? = some (.cells #[.pointer (some ⟨R, 0, none⟩)] 85 (0, 0))) := hid (heap_kept (grown_set w' ⟨B, i, none⟩ _) (heap_kept g5 ((H3.out.block _ (lt_of_block HZT.out)).trans HZT.out) (fun e => by have := (HT.out.own.lt _ e.symm).1; omega)) (fun e => by have e9 : w.heap.size = B := (by simpa using e); exact Nat.lt_irrefl _ (Nat.lt_of_lt_of_le HBW.out (Nat.le_of_eq e9))))
          have HNX := hid (HT.out.next HRW.out HBW.out hRB hlt (show RdP .num R wr sk [.int .u64 (y0 : Int)] wT from HV.out) H3.out o5 g5 gg5)
          clear o5 g5 gg5
          refine hK.out _ _ (hid trivial) (fun hHeld => ?_)
          clear hK K
          simp only [Act.put, List.getElem_toArray, List.getElem_cons_succ, List.getElem_cons_zero, List.setIfInBounds_toArray, List.set_cons_succ, List.set_cons_zero]
          refine wpAnyH_take (i := 8) (v := (.pointer (some ⟨B, i, none⟩))) rfl (by kernel_rfl) (by kernel_rfl) (by kernel_rfl) (fun _ _ _ h => (show False from h).elim) ?xyRLnum6 ?xhRLnum6 ?xrRLnum6
          case xhRLnum6 => exact hHeld
          case xyRLnum6 => exact Or.inl ⟨by rfl, fun W9 hW => by clear hHeld; simp only [List.getElem_toArray, List.getElem_cons_succ, List.getElem_cons_zero]; go_simp⟩
          simp only [Act.put, List.getElem_toArray, List.getElem_cons_succ, List.getElem_cons_zero, List.setIfInBounds_toArray, List.set_cons_succ, List.set_cons_zero]
          obtain ⟨q0, q1⟩ := row_at HF4.out HLI.out
          refine wpAnyH_ready (rs := [9]) (by kernel_rfl) (by simp) ?_
          refine AllReadyH.cons rfl (fun K hK => ?_) AllReadyH.nil
          go_simp
          refine hK.out _ _ (hid trivial) (fun hHeld => ?_)
          clear hK K
          refine wpAnyH_done (by kernel_rfl) ?_ _
          refine NoPanic.normal ?_
          clear q0 q1
          generalize w'.setCell ⟨B, i, none⟩ (.slice (some ⟨g, 0, none⟩) (k + 1) cap) = w5 at *
          obtain ⟨p0, p1⟩ := one_cell HZ5.out
          have CE := hid (err_any w5 R _ _ HNX.out.1)
          obtain ⟨ev, hev⟩ : ∃ ev, ev = (rdF .num sk).2.2 := ⟨_, rfl⟩
          rw [← hev] at CE
          by_cases h0 : ev = 0
          · have HNE := hid (HNX.out.2.1 (by rw [← hev]; exact h0))
            subst h0
            clear hev
            go_wp2_with (first | (go_at_call 158; refine CE.out.mono ?_; rintro en w6 ⟨rfl, rfl⟩))
            go_roundw
            case rel => exact ⟨k + 1, _, _, _, _, by go_num, HZ5.out, HNE.out⟩
            case measure => simp [intOf]; omega
          · have HNE := hid (HNX.out.2.2 (by rw [← hev]; exact h0) hn5)
            have hbe : (ev != 0) = true := by simp [h0]
            clear hev
            go_wp2_with (first | (go_at_call 158; refine CE.out.mono ?_; rintro en w6 ⟨rfl, rfl⟩))
            (try simp only [Exit.inBlock, Exit.then]); refine bodyPost_ret (results_none rfl _ _ _) rfl ?_
            obtain ⟨m1, m2, m3, m4⟩ := HNE.out
            refine ⟨rfl, .slice (some ⟨g, 0, none⟩) (k + 1) cap, ?_, m2, ?_, m4⟩
            · simp only [rdF]; rw [← HN.out.1, ← HN.out.2]; exact m1
            · simp only [rdF]; rw [← HN.out.1, ← HN.out.2]; exact m3
        · skip
          go_simp
          refine hK.out _ _ (hid trivial) (fun hHeld => ?_)
          clear hK K
          have d2 := (World.cell?_of_block (w := wT) (w' := wT.alloc (.cells #[.int .u64 (y0 : Int)] 25)) (a := ⟨B, i, none⟩) (H3.out.block B (lt_of_block HFT.out))).trans HDT.out
          refine wpAnyH_ready (rs := [3]) (by kernel_rfl) (by simp) ?_
          refine AllReadyH.cons rfl (fun K hK => ?_) AllReadyH.nil
          go_simp
          refine hK.out _ _ (hid trivial) (fun hHeld => ?_)
          clear hK K
          clear d2
          refine wpAnyH_ready (rs := [7]) (by kernel_rfl) (by simp) ?_
          refine AllReadyH.cons rfl (fun K hK => ?_) AllReadyH.nil
          refine step_app1 (by rfl) (.tmp 14) (.tmp 17) 46 (by rfl) (w.heap.size + 1) 25 Tryz.underlying46 HI0.out.1 HI0.out.2.1 HI0.out.2.2.1 HI0.out.2.2.2 (by simp [Value.cells]) (by decide) _ k _ (by rfl) HOW.out wT.heap.size [.int .u64 (y0 : Int)] (by rfl) HR3.out rfl (fun u hu => by simp only [List.mem_cons, List.not_mem_nil, or_false] at hu; subst hu; rfl) (by omega) (by decide) HSZ.out (fun g cap w' o5 g5 gg5 => ?_)
          have HF4 : Hid (w'.heap[B]? = some (.cells (cs.set i (.slice ao k c)).toArray t (0, 0))) := hid (heap_kept g5 ((H3.out.block B (lt_of_block HFT.out)).trans HFT.out) (fun e => by have := (HT.out.own.lt B e.symm).1; omega))
          have HZ5 : Hid ((w'.setCell ⟨B, i, none⟩ (.slice (some ⟨g, 0, none⟩) (k + 1) cap)).heap[w.heap.size]? = some (.cells #[.pointer (some ⟨R, 0, none⟩)] 85 (0, 0))) := hid (heap_kept (grown_set w' ⟨B, i, none⟩ _) (heap_kept g5 ((H3.out.block _ (lt_of_block HZT.out)).trans HZT.out) (fun e => by have := (HT.out.own.lt _ e.symm).1; omega)) (fun e => by have e9 : w.heap.size = B := (by simpa using e); exact Nat.lt_irrefl _ (Nat.lt_of_lt_of_le HBW.out (Nat.le_of_eq e9))))
          have HNX := hid (HT.out.next HRW.out HBW.out hRB hlt (show RdP .num R wr sk [.int .u64 (y0 : Int)] wT from HV.out) H3.out o5 g5 gg5)
          clear o5 g5 gg5
          refine hK.out _ _ (hid trivial) (fun hHeld => ?_)
          clear hK K
          simp only [Act.put, List.getElem_toArray, List.getElem_cons_succ, List.getElem_cons_zero, List.setIfInBounds_toArray, List.set_cons_succ, List.set_cons_zero]
          refine wpAnyH_take (i := 8) (v := (.pointer (some ⟨B, i, none⟩))) rfl (by kernel_rfl) (by kernel_rfl) (by kernel_rfl) (fun _ _ _ h => (show False from h).elim) ?xyRLnum7 ?xhRLnum7 ?xrRLnum7
          case xhRLnum7 => exact hHeld
          case xyRLnum7 => exact Or.inl ⟨by rfl, fun W9 hW => by clear hHeld; simp only [List.getElem_toArray, List.getElem_cons_succ, List.getElem_cons_zero]; go_simp⟩
          simp only [Act.put, List.getElem_toArray, List.getElem_cons_succ, List.getElem_cons_zero, List.setIfInBounds_toArray, List.set_cons_succ, List.set_cons_zero]
          obtain ⟨q0, q1⟩ := row_at HF4.out HLI.out
          refine wpAnyH_ready (rs := [9]) (by kernel_rfl) (by simp) ?_
          refine AllReadyH.cons rfl (fun K hK => ?_) AllReadyH.nil
          go_simp
          refine hK.out _ _ (hid trivial) (fun hHeld => ?_)
          clear hK K
          refine wpAnyH_done (by kernel_rfl) ?_ _
          refine NoPanic.normal ?_
          clear q0 q1
          generalize w'.setCell ⟨B, i, none⟩ (.slice (some ⟨g, 0, none⟩) (k + 1) cap) = w5 at *
          obtain ⟨p0, p1⟩ := one_cell HZ5.out
          have CE := hid (err_any w5 R _ _ HNX.out.1)
          obtain ⟨ev, hev⟩ : ∃ ev, ev = (rdF .num sk).2.2 := ⟨_, rfl⟩
          rw [← hev] at CE
          by_cases h0 : ev = 0
          · have HNE := hid (HNX.out.2.1 (by rw [← hev]; exact h0))
            subst h0
            clear hev
            go_wp2_with (first | (go_at_call 158; refine CE.out.mono ?_; rintro en w6 ⟨rfl, rfl⟩))
            go_roundw
            case rel => exact ⟨k + 1, _, _, _, _, by go_num, HZ5.out, HNE.out⟩
            case measure => simp [intOf]; omega
          · have HNE := hid (HNX.out.2.2 (by rw [← hev]; exact h0) hn5)
            have hbe : (ev != 0) = true := by simp [h0]
            clear hev
            go_wp2_with (first | (go_at_call 158; refine CE.out.mono ?_; rintro en w6 ⟨rfl, rfl⟩))
            (try simp only [Exit.inBlock, Exit.then]); refine bodyPost_ret (results_none rfl _ _ _) rfl ?_
            obtain ⟨m1, m2, m3, m4⟩ := HNE.out
            refine ⟨rfl, .slice (some ⟨g, 0, none⟩) (k + 1) cap, ?_, m2, ?_, m4⟩
            · simp only [rdF]; rw [← HN.out.1, ← HN.out.2]; exact m1
            · simp only [rdF]; rw [← HN.out.1, ← HN.out.2]; exact m3
    · obtain rfl : n = k := by omega
      have hki : ¬ (n : Int) < (n : Int) := by omega
      go_wp2_with fail
      go_end0
      obtain ⟨p1, p2⟩ := HT.out.done hn5
      refine ⟨rfl, .slice ao n c, ?_, HT.out.field, ?_, HT.out.keep⟩
      · simp only [rdF]; rw [← HN.out.1, ← HN.out.2]; exact p1
      · simp only [rdF]; rw [← HN.out.1, ← HN.out.2]; exact p2

end Go.Proofs.YtdfccaehoodjhaaGreat

set_option linter.unusedVariables false
set_option linter.unusedSimpArgs false
set_option maxRecDepth 100000
namespace Go.Proofs.YtdfccaehoodjhaaGreat
open Go.RowKit Go.Deep

/-- Cells from i on, replaced. -/
def setL (cs : List Value) (i : Nat) : List Value → List Value
  | [] => cs
  | v :: vs => setL (cs.set i v) (i + 1) vs
def setW (w : World) (B i : Nat) : List Value → World
  | [] => w
  | v :: vs => setW (w.setCell ⟨B, i, none⟩ v) B (i + 1) vs

theorem setW_put {B : Nat} {t : TypeId} : ∀ (vs : List Value) {w : World} {cs : List Value} (i : Nat), w.heap[B]? = some (.cells cs.toArray t (0, 0)) → (setW w B i vs).heap[B]? = some (.cells (setL cs i vs).toArray t (0, 0))
  | [], _, _, _, h => h
  | v :: vs, _, _, i, h => setW_put vs (i + 1) (row_put h i v)
theorem setW_keep {B : Nat} : ∀ (vs : List Value) (w : World) (i : Nat), Keep (fun k => k = B) w (setW w B i vs)
  | [], w, _ => Keep.refl _ w
  | v :: vs, w, i => (Keep.set (X := fun k => k = B) w ⟨B, i, none⟩ v rfl).trans (setW_keep vs _ (i + 1))

/-- What a struct field's reading leaves. -/
def TkS (s : Sh) (R B : Nat) (w : World) (st : Rst) (cs : List Value) (t : TypeId) (i : Nat) (vs : List Value) (w' : World) : Prop :=
  EncN (fun k => w.heap.size ≤ k ∧ k < w'.heap.size) w' s vs (rdF s st).1 ∧ w'.heap[B]? = some (.cells (setL cs i vs).toArray t (0, 0)) ∧ RAt w' R (rdF s st).2.1 (rdF s st).2.2 ∧ Keep (fun k => k = R ∨ k = B) w w'

theorem RdP.storeS {s : Sh} {R B : Nat} {w w' : World} {st : Rst} {cs : List Value} {t : TypeId} {vs : List Value} (h : RdP s R w st vs w') (hB : w.heap[B]? = some (.cells cs.toArray t (0, 0))) (hRB : R < B) (i : Nat) :
    TkS s R B w st cs t i vs (setW w' B i vs) := by
  obtain ⟨h1, h2, h3⟩ := h
  have hlt := lt_of_block hB
  have hB' : w'.heap[B]? = some (.cells cs.toArray t (0, 0)) := (h3.block B hlt (fun e => by omega)).trans hB
  have hk := setW_keep (B := B) vs w' i
  refine ⟨EncN.mono (fun k h => ⟨h.1, Nat.lt_of_lt_of_le h.2 hk.size⟩) s (EncN.keep hk (fun k h e => by have e' : k = B := e; have := h.1; omega) s h1), setW_put vs i hB', h2.keepK hk (fun k e => by have e' : k = B := e; omega), ?_⟩
  exact (h3.mono (fun k _ e => .inl e)).trans (hk.mono (fun k _ e => .inr e))

theorem setRow_same {w : World} {g : Nat} {old : Array Value} {t : TypeId} {fr : Nat × Nat} (hg : w.heap[g]? = some (.cells old t fr)) : w.setRow g old = w := by
  have hlt : g < w.heap.size := (Array.getElem?_eq_some_iff.1 hg).1
  have hv : w.heap[g] = .cells old t fr := (Array.getElem?_eq_some_iff.1 hg).2
  have h : (w.heap.modify g fun
      | .cells _ elem frozen => .cells old elem frozen
      | o => o) = w.heap := by
    apply Array.ext (by simp)
    intro i h1 h2
    rw [Array.getElem_modify]
    split
    · rename_i e
      subst e
      rw [hv]
    · rfl
  unfold World.setRow
  exact congrArg (fun x => { w with heap := x }) h

end Go.Proofs.YtdfccaehoodjhaaGreat

