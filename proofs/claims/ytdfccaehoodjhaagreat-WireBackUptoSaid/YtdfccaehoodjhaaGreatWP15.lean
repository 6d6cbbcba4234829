import Derived.WalkKit
import Derived.OpenShut
import Derived.Test.YtdfccaehoodjhaaGreatRows
import Derived.WalkSpells
import Derived.WalkLawsBesides
import Derived.Laws.AppendOwnNone
import Derived.ProofKit
import Derived.ShutString
import Derived.ChangeOld
import Derived.Below
import Derived.SizedLaws
import Derived.Deep.Slices
import Derived.Deep.AppendLies
import Derived.Deep.Strs
import Derived.Deep.RegionHeld3
import Derived.Lib.ConvBytes
import Derived.Laws.AppendOwn
import Derived.Deep.CutRange
import Derived.Deep.MidRow
import Derived.Great.Walk
import Derived.Great.BuildSlice
import Derived.Test.YtdfccaehoodjhaaGreatWP1
import Derived.Test.YtdfccaehoodjhaaGreatWP2
import Derived.Test.YtdfccaehoodjhaaGreatWP3
import Derived.Test.YtdfccaehoodjhaaGreatWP4
import Derived.Test.YtdfccaehoodjhaaGreatWP5
import Derived.Test.YtdfccaehoodjhaaGreatWP6
import Derived.Test.YtdfccaehoodjhaaGreatWP7
import Derived.Test.YtdfccaehoodjhaaGreatWP8
import Derived.Test.YtdfccaehoodjhaaGreatWP9
import Derived.Test.YtdfccaehoodjhaaGreatWP10
import Derived.Test.YtdfccaehoodjhaaGreatWP11
import Derived.Test.YtdfccaehoodjhaaGreatWP12
import Derived.Test.YtdfccaehoodjhaaGreatWP13
import Derived.Test.YtdfccaehoodjhaaGreatWP14
set_option linter.unusedVariables false
set_option linter.unusedSimpArgs false
set_option linter.unusedVariables false
set_option linter.unusedSimpArgs false
set_option maxRecDepth 100000
namespace Go.Proofs.YtdfccaehoodjhaaGreat
open Go.RowKit Go.Deep

/-- The zero cells. -/
def zCommand : List Value := [.int .i64 0, .int .i64 0, .int .u64 0, .int .i64 0, .int .i64 0, .int .i64 0, .bool false, .slice none 0 0, .slice none 0 0, .slice none 0 0, .slice none 0 0, .slice none 0 0, .slice none 0 0, .int .i64 0, .string ⟨#[]⟩, .slice none 0 0, .slice none 0 0, .int .i64 0, .int .i64 0, .string ⟨#[]⟩, .slice none 0 0, .bool false, .int .i64 0, .bool false, .string ⟨#[]⟩]
theorem wpList_callAny {P : Program} {ops : Array Oper} {rest : List Oper} {o : Oper} {a : Act} {w : World} {Q : Exit → Act → World → Prop} (hg : o.guard = none) (d : Option Tmp) (hd : o.dst = d)
    (f : FuncId) (args : Array Value) (hrun : (execOp a.eval o).run P w = .ok (.enter f args) w) {F : Ending → World → Prop} (hc : Calls P f args w F)
    (h : ∀ e w'', F e w'' → ∃ v, e = .returned v ∧ wpList P ops Q rest (a.put d v) w'') : wpList P ops Q (o :: rest) a w := by
  subst hd
  refine wpList_plain hg fun K hK => ?_
  unfold Oper.wp
  rw [hrun, Oper.upon_enter]
  refine hc.mono fun e w'' hh => ?_
  obtain ⟨v, rfl, h9⟩ := h e w'' hh
  exact hK _ _ h9
theorem alloc_Command (ρ : Operand → Value) (w : World) (d : Option Tmp) (t : TypeId) (p : String) (af : Array Edge) : (execOp ρ { dst := d, op := .alloc 43, type := t, pos := p, after := af, guard := none }).run Tryz.prog w = .ok (.value (.pointer (some ⟨w.heap.size, 0, none⟩))) (w.alloc (.cells zCommand.toArray 43)) := by as_aux_lemma => kernel_rfl
theorem EncN.row {N : Nat → Prop} {w : World} {s : Sh} {cs : List Value} {bs : List UInt8} (h : EncN N w s cs bs) : cs.toArray.size = s.wid ∧ cs.toArray.all (·.oneCell') = true := by
  obtain ⟨h1, h2⟩ := Enc.wide s (EncN.enc s h)
  refine ⟨by simpa using h1, ?_⟩
  rw [List.all_toArray, List.all_eq_true]
  exact h2
theorem zCommand_row : zCommand.toArray.size = 25 ∧ zCommand.toArray.all (·.oneCell') = true := ⟨rfl, by simp [zCommand, Value.oneCell']⟩
/-- What stands behind the reading of a whole Command. -/
def AlCommand (R : Nat) (w : World) (st : Rst) (en : Ending) (w' : World) : Prop := ∃ cs : List Value, en = .returned (.tuple #[.agg cs.toArray, .int .i64 (endS (rdF sCommand st).2.1 (rdF sCommand st).2.2)]) ∧ ((endS (rdF sCommand st).2.1 (rdF sCommand st).2.2) = 0 → EncN (fun j => w.heap.size ≤ j ∧ j < w'.heap.size) w' sCommand cs (rdF sCommand st).1) ∧ ((endS (rdF sCommand st).2.1 (rdF sCommand st).2.2) ≠ 0 → cs = zCommand) ∧ Keep (fun j => j = R) w w'
set_option maxHeartbeats 8000000 in
theorem aloneCommand_any {w : World} {R : Nat} {st : Rst} (h : RAt w R st.1 st.2) (hl : st.1.length ≤ 140737488355328) :
    Calls Tryz.prog 36 #[.agg #[.pointer (some ⟨R, 0, none⟩)], (.func (.func 37) #[.agg #[.pointer (some ⟨R, 0, none⟩)]] #[])] w (AlCommand R w st) := by
  have hb : Below w.heap.size w ((w.alloc (.cells #[.pointer (some ⟨R, 0, none⟩)] 85)).alloc (.cells zCommand.toArray 43)) := ((Below.refl _ _).alloc (Nat.le_refl _) _).alloc (by simp) _
  have hz := (Below.heap_alloc (w.alloc (.cells #[.pointer (some ⟨R, 0, none⟩)] 85)) (.cells zCommand.toArray 43) w.heap.size (by simp)).trans (heap_alloc_new w (.cells #[.pointer (some ⟨R, 0, none⟩)] 85))
  have hB := heap_alloc2_new w (.cells #[.pointer (some ⟨R, 0, none⟩)] 85) (.cells zCommand.toArray 43)
  obtain ⟨B, hBe⟩ : ∃ B, B = w.heap.size + 1 := ⟨_, rfl⟩
  have hRw := h.lt
  have hRB : R < B := by omega
  have HR0 := hid (h.old hb)
  rw [← hBe] at hB
  have HB0 := hid hB
  have HX0 := hid hz
  have HBW := hid hb
  have HL0 := hid hl
  clear h hb hz hB hl
  go_enter Tryz.func36, Tryz.ntmps36
  go_upto_region 1 with fail
  have hW0 : (w.alloc (.cells #[.pointer (some ⟨R, 0, none⟩)] 85)).alloc (.cells #[.int .i64 0, .int .i64 0, .int .u64 0, .int .i64 0, .int .i64 0, .int .i64 0, .bool false, .slice none 0 0, .slice none 0 0, .slice none 0 0, .slice none 0 0, .slice none 0 0, .slice none 0 0, .int .i64 0, .string ⟨#[]⟩, .slice none 0 0, .slice none 0 0, .int .i64 0, .int .i64 0, .string ⟨#[]⟩, .slice none 0 0, .bool false, .int .i64 0, .bool false, .string ⟨#[]⟩] 43) = ((w.alloc (.cells #[.pointer (some ⟨R, 0, none⟩)] 85)).alloc (.cells zCommand.toArray 43)) := rfl
  rw [hW0]
  clear hW0
  generalize ((w.alloc (.cells #[.pointer (some ⟨R, 0, none⟩)] 85)).alloc (.cells zCommand.toArray 43)) = w0 at *
  try rw [← hBe]
  have HBE := hid hBe
  clear hBe
  have CQ := hid (rCommand_any HR0.out HL0.out)
  have zr := zCommand_row
  have HZR := hid zr
  clear zr
  apply wp_region_lit
  refine Great.wpList_readTo rfl (some 9) rfl (.func (.func 37) #[.agg #[.pointer (some ⟨R, 0, none⟩)]] #[]) (by rfl) ?_
  simp only [Act.put, List.getElem_toArray, List.getElem_cons_succ, List.getElem_cons_zero, List.setIfInBounds_toArray, List.set_cons_succ, List.set_cons_zero]
  refine wpList_callAny rfl (some 10) rfl 37 #[.agg #[.pointer (some ⟨R, 0, none⟩)]] (by as_aux_lemma => kernel_rfl) CQ.out ?_
  rintro en w1 ⟨mc, rfl, hv⟩
  refine ⟨_, rfl, ?_⟩
  simp only [Act.put, List.getElem_toArray, List.getElem_cons_succ, List.getElem_cons_zero, List.setIfInBounds_toArray, List.set_cons_succ, List.set_cons_zero]
  obtain ⟨hV1, hV2⟩ := EncN.row hv.1
  have HV := hid hv
  clear hv
  refine Great.wpList_allocTo rfl (some 6) rfl _ _ (alloc_Command _ w1 _ _ _ _) ?_
  simp only [Act.put, List.getElem_toArray, List.getElem_cons_succ, List.getElem_cons_zero, List.setIfInBounds_toArray, List.set_cons_succ, List.set_cons_zero]
  obtain ⟨V, hV⟩ : ∃ V, V = mc.toArray := ⟨_, rfl⟩
  rw [← hV] at hV1 hV2 ⊢
  have hVi : (Tryz.prog.info? 43).map (·.size) = some V.size := by rw [hV1]; kernel_rfl
  have HVI := hid hVi
  have hx1 := heap_alloc_new w1 (.cells zCommand.toArray 43)
  have hb2 : Below w1.heap.size w1 (w1.alloc (.cells zCommand.toArray 43)) := (Below.refl _ _).alloc (Nat.le_refl _) _
  have hHS := (HZR.out.1.trans (show 25 = V.size from hV1.symm))
  refine Go.wpList_store_rowTo rfl 43 _ _ rfl rfl w1.heap.size V rfl rfl 43 zCommand.toArray hx1 hVi hHS hV2 ?_
  have hK9 : Keep (fun j => j = w1.heap.size) w1 ((w1.alloc (.cells zCommand.toArray 43)).setRow w1.heap.size V) := (Keep.of_below (X := fun j => j = w1.heap.size) hb2).trans (setRow_keep _ _ _)
  have hxx := setRow_heap (w1.alloc (.cells zCommand.toArray 43)) w1.heap.size _ V _ _ hx1
  obtain ⟨X, hX⟩ : ∃ X, X = w1.heap.size := ⟨_, rfl⟩
  rw [← hX] at hK9 hxx ⊢
  clear hb2 hx1 CQ hHS
  generalize (w1.alloc (.cells zCommand.toArray 43)).setRow X V = w2 at *
  have hs1 : X ≤ w2.heap.size := by rw [hX]; exact hK9.size
  have HV2 := hid (EncN.mono (fun j hj => (⟨hj.1, Nat.lt_of_lt_of_le hj.2 hK9.size⟩ : w0.heap.size ≤ j ∧ j < w2.heap.size)) _ (EncN.keep hK9 (fun j hj e => by have e9 : j = X := e; have := hj.2; omega) _ HV.out.1))
  have hRlt : R < X := by rw [hX]; exact HV.out.2.1.lt
  have HR2 := hid (HV.out.2.1.keepK hK9 (fun k e => by have e9 : k = X := e; omega))
  have hS1 : B < X := by rw [hX]; exact Nat.lt_of_lt_of_le (lt_of_block HB0.out) HV.out.2.2.size
  have hw8 := lt_of_block HX0.out
  have hwX : w.heap.size < X := by have := HBE.out; omega
  have HB2 : Hid (w2.heap[B]? = some (.cells zCommand.toArray 43 (0, 0))) := hid ((hK9.block B (by omega) (fun e => by have e9 : B = X := e; omega)).trans ((HV.out.2.2.block B (lt_of_block HB0.out) (fun e => by have e9 : B = R := e; omega)).trans HB0.out))
  have HX2 := hid ((hK9.block w.heap.size (by omega) (fun e => by have e9 : w.heap.size = X := e; omega)).trans ((HV.out.2.2.block w.heap.size (lt_of_block HX0.out) (fun e => by have e9 : w.heap.size = R := e; omega)).trans HX0.out))
  have HXX : Hid (w2.heap[X]? = some (.cells V 43 (0, 0))) := hid hxx
  have HK2 : Hid (Keep (fun j => j = R) w0 w2) := hid (HV.out.2.2.trans2 hK9 (fun j e => .inr (by have e9 : j = X := e; have := HV.out.2.2.size; omega)))
  have HS1 : Hid (B < X) := hid hS1
  clear hK9 hxx hRlt hS1 hs1 hw8 hwX
  have HXE := hid hX
  have HVE := hid hV
  have HVS := hid hV1
  have HVO := hid hV2
  clear hX hV hV1 hV2 hVi
  obtain ⟨ev, hev⟩ : ∃ ev, ev = (endS (rdF sCommand st).2.1 (rdF sCommand st).2.2) := ⟨_, rfl⟩
  have CE : Hid (Calls Tryz.prog 79 #[.pointer (some ⟨R, 0, none⟩)] w2 (fun en w' => en = .returned (.int .i64 ev) ∧ w2 = w')) := hid (by rw [hev]; exact endR_any w2 R _ _ HR2.out)
  have HEV := hid hev
  clear hev
  have x0 := (one_cell HX2.out).1
  by_cases h0 : ev = 0
  · subst h0
    have hl9 : V = V.toList.toArray := by simp
    have LD := cells_load (V := w2) (B := X) (cs := V.toList) (fun i u hi => (row_at (by rw [← hl9]; exact HXX.out) hi).1) Tryz.underlying43 rfl (by rw [Array.length_toList]; exact HVI.out)
    rw [← hl9] at LD
    clear hl9
    have HLD := hid LD
    clear LD
    have HSF := hid (setRow_heap w2 B _ V _ _ HB2.out)
    have HKS := hid (setRow_keep w2 B V)
    go_upto_region 6 with (first | (go_at_call 79; refine CE.out.mono ?_; rintro en w3 ⟨rfl, rfl⟩))
    apply wp_region_lit
    refine Great.wpList_readTo rfl (some 18) rfl (.agg V) (exec_load rfl HLD.out) ?_
    simp only [Act.put, List.getElem_toArray, List.getElem_cons_succ, List.getElem_cons_zero, List.setIfInBounds_toArray, List.set_cons_succ, List.set_cons_zero]
    refine Go.wpList_store_rowTo rfl 43 _ _ rfl rfl B V rfl rfl 43 zCommand.toArray HB2.out HVI.out (HZR.out.1.trans (show 25 = V.size from HVS.out.symm)) HVO.out ?_
    generalize w2.setRow B V = w5 at *
    go_wp2_with fail
    refine bodyPost_ret (results_cell2 rfl _ _ B 43 _ (0, 0) _ rfl HSF.out Tryz.underlying43 rfl HVI.out) rfl ?_
    refine ⟨mc, by rw [← HEV.out, ← HVE.out]; rfl, fun _ => EncN.mono (fun j hj => ⟨Nat.le_trans HBW.out.size hj.1, Nat.lt_of_lt_of_le hj.2 HKS.out.size⟩) _ (EncN.keep HKS.out (fun j hj e => by have e9 : j = B := e; have a9 := lt_of_block HB0.out; have := hj.1; omega) _ HV2.out), fun h9 => absurd HEV.out.symm h9, ?_⟩
    exact ((Keep.of_below HBW.out).trans HK2.out).trans2 HKS.out (fun j e => .inr (by have e9 : j = B := e; have := HBE.out; omega))
  · have hbe : (ev != 0) = true := by simp [h0]
    have hb3 : Below w2.heap.size w2 (w2.alloc (.cells zCommand.toArray 43)) := (Below.refl _ _).alloc (Nat.le_refl _) _
    have hx3 := heap_alloc_new w2 (.cells zCommand.toArray 43)
    have hB3 := (hb3.block B (lt_of_block HB2.out)).trans HB2.out
    have hzi : (Tryz.prog.info? 43).map (·.size) = some zCommand.toArray.size := by rw [HZR.out.1]; kernel_rfl
    have HZI := hid hzi
    have LD := cells_load (cs := zCommand) (fun i u hi => (row_at hx3 hi).1) Tryz.underlying43 rfl hzi
    have HLD := hid LD
    clear LD hx3 hzi
    have HBB : Hid ((w2.alloc (.cells zCommand.toArray 43)).heap[B]? = some (.cells zCommand.toArray 43 (0, 0))) := hid hB3
    have HB3 := hid hb3
    clear hb3 hB3
    go_upto_region 5 with (first | (go_at_call 79; refine CE.out.mono ?_; rintro en w3 ⟨rfl, rfl⟩))
    have hW9 : w2.alloc (.cells #[.int .i64 0, .int .i64 0, .int .u64 0, .int .i64 0, .int .i64 0, .int .i64 0, .bool false, .slice none 0 0, .slice none 0 0, .slice none 0 0, .slice none 0 0, .slice none 0 0, .slice none 0 0, .int .i64 0, .string ⟨#[]⟩, .slice none 0 0, .slice none 0 0, .int .i64 0, .int .i64 0, .string ⟨#[]⟩, .slice none 0 0, .bool false, .int .i64 0, .bool false, .string ⟨#[]⟩] 43) = w2.alloc (.cells zCommand.toArray 43) := rfl
    rw [hW9]
    clear hW9
    generalize w2.alloc (.cells zCommand.toArray 43) = w4 at *
    apply wp_region_lit
    refine Great.wpList_readTo rfl (some 16) rfl (.agg zCommand.toArray) (exec_load rfl HLD.out) ?_
    simp only [Act.put, List.getElem_toArray, List.getElem_cons_succ, List.getElem_cons_zero, List.setIfInBounds_toArray, List.set_cons_succ, List.set_cons_zero]
    refine Great.wpList_readTo rfl (some 17) rfl (.int .i64 ev) (by rfl) ?_
    simp only [Act.put, List.getElem_toArray, List.getElem_cons_succ, List.getElem_cons_zero, List.setIfInBounds_toArray, List.set_cons_succ, List.set_cons_zero]
    refine Go.wpList_store_rowTo rfl 43 _ _ rfl rfl B zCommand.toArray rfl rfl 43 zCommand.toArray HBB.out HZI.out rfl HZR.out.2 ?_
    rw [setRow_same HBB.out]
    go_wp2_with fail
    refine bodyPost_ret (results_cell2 rfl _ _ B 43 _ (0, 0) _ rfl HBB.out Tryz.underlying43 rfl HZI.out) rfl ?_
    refine ⟨zCommand, by rw [← HEV.out]; rfl, fun h9 => absurd (HEV.out.trans h9) h0, fun _ => rfl, ?_⟩
    exact (((Keep.of_below HBW.out).trans HK2.out).trans (Keep.of_below HB3.out))

end Go.Proofs.YtdfccaehoodjhaaGreat

set_option linter.unusedVariables false
set_option linter.unusedSimpArgs false
set_option maxRecDepth 100000
namespace Go.Proofs.YtdfccaehoodjhaaGreat
open Go.RowKit Go.Deep

theorem AlCommand_row {E : Int} {N : Nat → Prop} {w : World} {cs : List Value} {bs : List UInt8} (h1 : E = 0 → EncN N w sCommand cs bs) (h2 : E ≠ 0 → cs = zCommand) : cs.toArray.size = 25 ∧ cs.toArray.all (·.oneCell') = true := by
  by_cases h : E = 0
  · exact EncN.row (h1 h)
  · rw [h2 h]; exact zCommand_row
/-- What TakeCommand answers. -/
def TkCommand (w : World) (l : List UInt8) (en : Ending) (w' : World) : Prop := ∃ cs : List Value, en = .returned (.tuple #[.agg cs.toArray, .int .i64 (endS (rdF sCommand (l, 0)).2.1 (rdF sCommand (l, 0)).2.2)]) ∧ ((endS (rdF sCommand (l, 0)).2.1 (rdF sCommand (l, 0)).2.2) = 0 → EncN (fun j => w.heap.size ≤ j ∧ j < w'.heap.size) w' sCommand cs (rdF sCommand (l, 0)).1) ∧ ((endS (rdF sCommand (l, 0)).2.1 (rdF sCommand (l, 0)).2.2) ≠ 0 → cs = zCommand) ∧ Below w.heap.size w w'
set_option maxHeartbeats 8000000 in
theorem takeCommand_any (x : Value) (l : List UInt8) (w : World) (hx : Rd w x l) (hl : l.length ≤ 140737488355328) : Calls Tryz.prog 9 #[x] w (TkCommand w l) := by
  have hb : Below w.heap.size w (w.alloc (.cells zCommand.toArray 43)) := (Below.refl _ _).alloc (Nat.le_refl _) _
  have hB := heap_alloc_new w (.cells zCommand.toArray 43)
  have CN := hid (new_any (w.alloc (.cells zCommand.toArray 43)) x l (hx.old hb) hl)
  have HB := hid hB
  have HBW := hid hb
  have HL := hid hl
  clear hb hB hx hl
  go_enter Tryz.func9, Tryz.ntmps9
  go_upto_region 1 with fail
  have hW0 : w.alloc (.cells #[.int .i64 0, .int .i64 0, .int .u64 0, .int .i64 0, .int .i64 0, .int .i64 0, .bool false, .slice none 0 0, .slice none 0 0, .slice none 0 0, .slice none 0 0, .slice none 0 0, .slice none 0 0, .int .i64 0, .string ⟨#[]⟩, .slice none 0 0, .slice none 0 0, .int .i64 0, .int .i64 0, .string ⟨#[]⟩, .slice none 0 0, .bool false, .int .i64 0, .bool false, .string ⟨#[]⟩] 43) = w.alloc (.cells zCommand.toArray 43) := rfl
  rw [hW0]
  clear hW0
  generalize w.alloc (.cells zCommand.toArray 43) = w1 at *
  go_upto_region 2 with (first | (go_at_call 29; refine CN.out.mono ?_; rintro en w2 ⟨R, rfl, hR1, hr, hb2⟩; have HR := hid hr; have HRB := hid (Nat.lt_of_lt_of_le (lt_of_block HB.out) hR1); have HB2 := hid ((hb2.block _ (lt_of_block HB.out)).trans HB.out); have HW2 := hid hb2; clear hr hR1 hb2))
  have hb3 : Below w2.heap.size w2 (w2.alloc (.cells #[.pointer (some ⟨R, 0, none⟩)] 85)) := (Below.refl _ _).alloc (Nat.le_refl _) _
  have hx3 := heap_alloc_new w2 (.cells #[.pointer (some ⟨R, 0, none⟩)] 85)
  have HR3 := hid (HR.out.old hb3)
  have HB3 := hid ((hb3.block _ (lt_of_block HB2.out)).trans HB2.out)
  have HW3 := hid (HW2.out.trans (hb3.mono HW2.out.size))
  clear hb3
  have LD := cells_load (cs := [.pointer (some ⟨R, 0, none⟩)]) (fun i u hi => (row_at hx3 hi).1) Tryz.underlying85 rfl (by kernel_rfl)
  clear hx3
  obtain ⟨X, hX⟩ : ∃ X, X = w2.heap.size := ⟨_, rfl⟩
  rw [← hX] at LD
  generalize w2.alloc (.cells #[.pointer (some ⟨R, 0, none⟩)] 85) = w3 at *
  try rw [← hX]
  clear hX
  have CA := hid (aloneCommand_any (st := (l, 0)) HR3.out HL.out)
  have zr := zCommand_row
  have HZR := hid zr
  clear zr
  apply wp_region_lit
  refine Great.wpList_readTo rfl (some 8) rfl (.agg #[.pointer (some ⟨R, 0, none⟩)]) (exec_load rfl LD) ?_
  simp only [Act.put, List.getElem_toArray, List.getElem_cons_succ, List.getElem_cons_zero, List.setIfInBounds_toArray, List.set_cons_succ, List.set_cons_zero]
  refine Great.wpList_readTo rfl (some 9) rfl (.agg #[.pointer (some ⟨R, 0, none⟩)]) (exec_load rfl LD) ?_
  simp only [Act.put, List.getElem_toArray, List.getElem_cons_succ, List.getElem_cons_zero, List.setIfInBounds_toArray, List.set_cons_succ, List.set_cons_zero]
  refine Great.wpList_readTo rfl (some 10) rfl (.func (.func 37) #[.agg #[.pointer (some ⟨R, 0, none⟩)]] #[]) (by as_aux_lemma => kernel_rfl) ?_
  simp only [Act.put, List.getElem_toArray, List.getElem_cons_succ, List.getElem_cons_zero, List.setIfInBounds_toArray, List.set_cons_succ, List.set_cons_zero]
  refine wpList_callAny rfl (some 11) rfl 36 #[.agg #[.pointer (some ⟨R, 0, none⟩)], (.func (.func 37) #[.agg #[.pointer (some ⟨R, 0, none⟩)]] #[])] (by as_aux_lemma => kernel_rfl) CA.out ?_
  rintro en w4 ⟨cs, rfl, h1, h2, hk⟩
  refine ⟨_, rfl, ?_⟩
  simp only [Act.put, List.getElem_toArray, List.getElem_cons_succ, List.getElem_cons_zero, List.setIfInBounds_toArray, List.set_cons_succ, List.set_cons_zero]
  obtain ⟨hv1, hv2⟩ := AlCommand_row h1 h2
  obtain ⟨V, hV⟩ : ∃ V, V = cs.toArray := ⟨_, rfl⟩
  rw [← hV] at hv1 hv2 ⊢
  obtain ⟨ev, hev⟩ : ∃ ev, ev = (endS (rdF sCommand (l, 0)).2.1 (rdF sCommand (l, 0)).2.2) := ⟨_, rfl⟩
  rw [show (endS (rdF sCommand ((l, 0) : Rst)).2.1 (rdF sCommand ((l, 0) : Rst)).2.2) = ev from hev.symm] at h1 h2 ⊢
  have hB4 := (hk.block _ (lt_of_block HB3.out) (fun e => by have e9 : w.heap.size = R := e; have := HRB.out; omega)).trans HB3.out
  refine Great.wpList_readTo rfl (some 12) rfl (.agg V) (by as_aux_lemma => kernel_rfl) ?_
  simp only [Act.put, List.getElem_toArray, List.getElem_cons_succ, List.getElem_cons_zero, List.setIfInBounds_toArray, List.set_cons_succ, List.set_cons_zero]
  refine Great.wpList_readTo rfl (some 13) rfl (.int .i64 ev) (by as_aux_lemma => kernel_rfl) ?_
  simp only [Act.put, List.getElem_toArray, List.getElem_cons_succ, List.getElem_cons_zero, List.setIfInBounds_toArray, List.set_cons_succ, List.set_cons_zero]
  have hVi : (Tryz.prog.info? 43).map (·.size) = some V.size := by rw [hv1]; kernel_rfl
  refine Go.wpList_store_rowTo rfl 43 _ _ rfl rfl w.heap.size V rfl rfl 43 zCommand.toArray hB4 hVi (HZR.out.1.trans (show 25 = V.size from hv1.symm)) hv2 ?_
  have HSF := hid (setRow_heap w4 w.heap.size _ V _ _ hB4)
  have HKS := hid (setRow_keep w4 w.heap.size V)
  have H1 := hid h1
  have H2 := hid h2
  have HK := hid hk
  have HVI := hid hVi
  have HVE := hid hV
  have HEV := hid hev
  clear h1 h2 hk hVi hV hv1 hv2 hev hB4 LD
  generalize w4.setRow w.heap.size V = w5 at *
  go_wp2_with fail
  refine bodyPost_ret (results_cell2 rfl _ _ w.heap.size 43 _ (0, 0) _ rfl HSF.out Tryz.underlying43 rfl HVI.out) rfl ?_
  have a1 := HBW.out.size
  have a2 := lt_of_block HB.out
  have a3 := HW3.out.size
  refine ⟨cs, by rw [← HEV.out, ← HVE.out]; rfl, fun h0 => EncN.mono (fun j hj => ⟨by have := hj.1; omega, Nat.lt_of_lt_of_le hj.2 HKS.out.size⟩) _ (EncN.keep HKS.out (fun j hj e => by have e9 : j = w.heap.size := e; have := hj.1; omega) _ (H1.out (HEV.out.trans h0))), fun h0 => H2.out (fun e => h0 (HEV.out.symm.trans e)), ?_⟩
  exact (((Keep.of_below (X := fun _ => False) HBW.out).trans (Keep.of_below (X := fun _ => False) (HW3.out.mono (Nat.le_refl _)))).trans2 HK.out (fun j e => .inr (by have e9 : j = R := e; have := HRB.out; omega))).trans2 HKS.out (fun j e => .inr (by have e9 : j = w.heap.size := e; omega)) |>.below (Nat.le_refl _) (fun k e => e.elim)

end Go.Proofs.YtdfccaehoodjhaaGreat

set_option linter.unusedVariables false
set_option linter.unusedSimpArgs false
set_option maxRecDepth 100000
namespace Go.Proofs.YtdfccaehoodjhaaGreat
open Go.RowKit Go.Deep

set_option maxHeartbeats 8000000 in
theorem rCall_any {w : World} {R : Nat} {st : Rst} (h : RAt w R st.1 st.2) (hl : st.1.length ≤ 140737488355328) :
    Calls Tryz.prog 31 #[.agg #[.pointer (some ⟨R, 0, none⟩)]] w (fun en w' => ∃ cs, en = .returned (.agg cs.toArray) ∧ RdP sCall R w st cs w') := by
  have hb : Below w.heap.size w ((w.alloc (.cells #[.pointer (some ⟨R, 0, none⟩)] 85)).alloc (.cells #[.int .u64 0, .int .u64 0, .slice none 0 0] 27)) := ((Below.refl _ _).alloc (Nat.le_refl _) _).alloc (by simp) _
  have hz := (Below.heap_alloc (w.alloc (.cells #[.pointer (some ⟨R, 0, none⟩)] 85)) (.cells #[.int .u64 0, .int .u64 0, .slice none 0 0] 27) w.heap.size (by simp)).trans (heap_alloc_new w (.cells #[.pointer (some ⟨R, 0, none⟩)] 85))
  have hB := heap_alloc2_new w (.cells #[.pointer (some ⟨R, 0, none⟩)] 85) (.cells #[.int .u64 0, .int .u64 0, .slice none 0 0] 27)
  obtain ⟨B, hBe⟩ : ∃ B, B = w.heap.size + 1 := ⟨_, rfl⟩
  have hRw := h.lt
  have hRB : R < B := by omega
  have HR0 := hid (h.old hb)
  rw [← hBe] at hB
  have HB0 := hid hB
  have HX0 := hid hz
  have HBW := hid hb
  have HL0 := hid hl
  clear h hb hz hB hl
  go_enter Tryz.func31, Tryz.ntmps31
  go_upto_region 1 with fail
  generalize (w.alloc (.cells #[.pointer (some ⟨R, 0, none⟩)] 85)).alloc (.cells #[.int .u64 0, .int .u64 0, .slice none 0 0] 27) = w0 at *
  try rw [← hBe]
  have HK0 : Hid (Keep (fun j => j = R ∨ j = B) w0 w0) := hid (Keep.refl _ _)
  have HBE := hid hBe
  clear hBe
  have y0 := (one_cell HX0.out).1
  have CQ := hid (rtake_num9 0 HR0.out HL0.out HB0.out rfl hRB)
  go_upto_region 2 with (first | (go_at_call 80; refine CQ.out.mono ?_; rintro en w1 ⟨rfl, v0, hv⟩; have HV0 := hid hv; clear hv))
  clear CQ y0
  have HB1 : Hid (w1.heap[B]? = some (.cells #[v0, .int .u64 0, .slice none 0 0] 27 (0, 0))) := HV0.out.2.1
  have HR1 : Hid (RAt w1 R (rdF .num st).2.1 (rdF .num st).2.2) := HV0.out.2.2.1
  have HL1 : Hid ((rdF .num st).2.1.length ≤ 140737488355328) := hid (Nat.le_trans (rd_len _ _) HL0.out)
  have HX1 := hid ((HV0.out.2.2.2.block w.heap.size (lt_of_block HX0.out) (fun e => by have e9 : w.heap.size = R ∨ w.heap.size = B := e; have := HBE.out; omega)).trans HX0.out)
  have HK1 := hid (HK0.out.trans HV0.out.2.2.2)
  have HE0_1 : Hid (EncN (fun j => B < j ∧ j < w1.heap.size) w1 .num [v0] (rdF .num st).1) := hid (EncN.mono (fun j hj => ⟨Nat.lt_of_lt_of_le (lt_of_block HB0.out) hj.1, hj.2⟩) _ HV0.out.1)
  have y0 := (one_cell HX1.out).1
  have CQ := hid (rtake_num9 1 HR1.out HL1.out HB1.out rfl hRB)
  go_upto_region 3 with (first | (go_at_call 80; refine CQ.out.mono ?_; rintro en w2 ⟨rfl, v1, hv⟩; have HV1 := hid hv; clear hv))
  clear CQ y0
  have HB2 : Hid (w2.heap[B]? = some (.cells #[v0, v1, .slice none 0 0] 27 (0, 0))) := HV1.out.2.1
  have HR2 : Hid (RAt w2 R (rdF .num (rdF .num st).2).2.1 (rdF .num (rdF .num st).2).2.2) := HV1.out.2.2.1
  have HL2 : Hid ((rdF .num (rdF .num st).2).2.1.length ≤ 140737488355328) := hid (Nat.le_trans (rd_len _ _) HL1.out)
  have HX2 := hid ((HV1.out.2.2.2.block w.heap.size (lt_of_block HX1.out) (fun e => by have e9 : w.heap.size = R ∨ w.heap.size = B := e; have := HBE.out; omega)).trans HX1.out)
  have HK2 := hid (HK1.out.trans HV1.out.2.2.2)
  have HE1_2 : Hid (EncN (fun j => B < j ∧ j < w2.heap.size) w2 .num [v1] (rdF .num (rdF .num st).2).1) := hid (EncN.mono (fun j hj => ⟨Nat.lt_of_lt_of_le (lt_of_block HB1.out) hj.1, hj.2⟩) _ HV1.out.1)
  have HE0_2 : Hid (EncN (fun j => B < j ∧ j < w2.heap.size) w2 .num [v0] (rdF .num st).1) := hid (EncN.mono (fun j hj => ⟨hj.1, Nat.lt_of_lt_of_le hj.2 HV1.out.2.2.2.size⟩) _ (EncN.keep HV1.out.2.2.2 (fun j hj e => by have e9 : j = R ∨ j = B := e; have := hj.1; omega) _ HE0_1.out))
  clear HE0_1
  have y0 := (one_cell HX2.out).1
  have CQ := hid (rtake_data 2 HR2.out HL2.out HB2.out rfl hRB)
  go_upto_region 4 with (first | (go_at_call 82; refine CQ.out.mono ?_; rintro en w3 ⟨rfl, v2, hv⟩; have HV2 := hid hv; clear hv))
  clear CQ y0
  have HB3 : Hid (w3.heap[B]? = some (.cells #[v0, v1, v2] 27 (0, 0))) := HV2.out.2.1
  have HR3 : Hid (RAt w3 R (rdF .data (rdF .num (rdF .num st).2).2).2.1 (rdF .data (rdF .num (rdF .num st).2).2).2.2) := HV2.out.2.2.1
  have HL3 : Hid ((rdF .data (rdF .num (rdF .num st).2).2).2.1.length ≤ 140737488355328) := hid (Nat.le_trans (rd_len _ _) HL2.out)
  have HX3 := hid ((HV2.out.2.2.2.block w.heap.size (lt_of_block HX2.out) (fun e => by have e9 : w.heap.size = R ∨ w.heap.size = B := e; have := HBE.out; omega)).trans HX2.out)
  have HK3 := hid (HK2.out.trans HV2.out.2.2.2)
  have HE2_3 : Hid (EncN (fun j => B < j ∧ j < w3.heap.size) w3 .data [v2] (rdF .data (rdF .num (rdF .num st).2).2).1) := hid (EncN.mono (fun j hj => ⟨Nat.lt_of_lt_of_le (lt_of_block HB2.out) hj.1, hj.2⟩) _ HV2.out.1)
  have HE0_3 : Hid (EncN (fun j => B < j ∧ j < w3.heap.size) w3 .num [v0] (rdF .num st).1) := hid (EncN.mono (fun j hj => ⟨hj.1, Nat.lt_of_lt_of_le hj.2 HV2.out.2.2.2.size⟩) _ (EncN.keep HV2.out.2.2.2 (fun j hj e => by have e9 : j = R ∨ j = B := e; have := hj.1; omega) _ HE0_2.out))
  have HE1_3 : Hid (EncN (fun j => B < j ∧ j < w3.heap.size) w3 .num [v1] (rdF .num (rdF .num st).2).1) := hid (EncN.mono (fun j hj => ⟨hj.1, Nat.lt_of_lt_of_le hj.2 HV2.out.2.2.2.size⟩) _ (EncN.keep HV2.out.2.2.2 (fun j hj e => by have e9 : j = R ∨ j = B := e; have := hj.1; omega) _ HE1_2.out))
  clear HE0_2 HE1_2
  obtain ⟨y0, rfl⟩ := form_num (EncN.enc _ HE0_3.out)
  obtain ⟨y1, rfl⟩ := form_num (EncN.enc _ HE1_3.out)
  obtain ⟨y2, j2, c2, rfl⟩ := form_data (EncN.enc _ HE2_3.out)
  obtain ⟨q0, r0⟩ := row_at (cs := [(.int .u64 (y0 : Int)), (.int .u64 (y1 : Int)), (.slice y2 j2 c2)]) HB3.out (i := 0) rfl
  obtain ⟨q1, r1⟩ := row_at (cs := [(.int .u64 (y0 : Int)), (.int .u64 (y1 : Int)), (.slice y2 j2 c2)]) HB3.out (i := 1) rfl
  obtain ⟨q2, r2⟩ := row_at (cs := [(.int .u64 (y0 : Int)), (.int .u64 (y1 : Int)), (.slice y2 j2 c2)]) HB3.out (i := 2) rfl
  have hs0 : w3.heap[B]? = some (.cells ([(.int .u64 (y0 : Int)), (.int .u64 (y1 : Int)), (.slice y2 j2 c2)] : List Value).toArray 27 (0, 0)) := HB3.out
  have hs1 := row_put hs0 0 (.int .u64 (y0 : Int))
  have hs2 := row_put hs1 1 (.int .u64 (y1 : Int))
  have hs3 := row_put hs2 2 (.slice y2 j2 c2)
  have hks : Keep (fun j => j = B) w3 (((w3.setCell ⟨B, 0, none⟩ (.int .u64 (y0 : Int))).setCell ⟨B, 1, none⟩ (.int .u64 (y1 : Int))).setCell ⟨B, 2, none⟩ (.slice y2 j2 c2)) := (((Keep.refl (fun j => j = B) _).trans (Keep.set (X := fun j => j = B) _ ⟨B, 0, none⟩ (.int .u64 (y0 : Int)) rfl)).trans (Keep.set (X := fun j => j = B) _ ⟨B, 1, none⟩ (.int .u64 (y1 : Int)) rfl)).trans (Keep.set (X := fun j => j = B) _ ⟨B, 2, none⟩ (.slice y2 j2 c2) rfl)
  have HSF : Hid ((((w3.setCell ⟨B, 0, none⟩ (.int .u64 (y0 : Int))).setCell ⟨B, 1, none⟩ (.int .u64 (y1 : Int))).setCell ⟨B, 2, none⟩ (.slice y2 j2 c2)).heap[B]? = some (.cells #[(.int .u64 (y0 : Int)), (.int .u64 (y1 : Int)), (.slice y2 j2 c2)] 27 (0, 0))) := hs3
  have HKS := hid hks
  clear hks hs0 hs1 hs2 hs3
  go_wp2_with fail
  refine bodyPost_ret (results_cell_row rfl _ _ B 27 _ (0, 0) _ rfl HSF.out Tryz.underlying27 rfl (by kernel_rfl)) rfl ?_
  have hfin : ∀ (s : Sh) (cs : List Value) (bs : List UInt8), EncN (fun j => B < j ∧ j < w3.heap.size) w3 s cs bs → EncN (fun j => w.heap.size ≤ j ∧ j < (((w3.setCell ⟨B, 0, none⟩ (.int .u64 (y0 : Int))).setCell ⟨B, 1, none⟩ (.int .u64 (y1 : Int))).setCell ⟨B, 2, none⟩ (.slice y2 j2 c2)).heap.size) (((w3.setCell ⟨B, 0, none⟩ (.int .u64 (y0 : Int))).setCell ⟨B, 1, none⟩ (.int .u64 (y1 : Int))).setCell ⟨B, 2, none⟩ (.slice y2 j2 c2)) s cs bs := fun s cs bs h => EncN.mono (fun j hj => ⟨by have := HBE.out; omega, Nat.lt_of_lt_of_le hj.2 HKS.out.size⟩) s (EncN.keep HKS.out (fun j hj e => by have e9 : j = B := e; have := hj.1; omega) s h)
  refine ⟨[(.int .u64 (y0 : Int)), (.int .u64 (y1 : Int)), (.slice y2 j2 c2)], rfl, ?_, HR3.out.keepK HKS.out (fun j e => by have e9 : j = B := e; omega), ?_⟩
  · exact ⟨[(.int .u64 (y0 : Int))], [(.int .u64 (y1 : Int)), (.slice y2 j2 c2)], _, _, rfl, rfl, hfin _ _ _ HE0_3.out, ⟨[(.int .u64 (y1 : Int))], [(.slice y2 j2 c2)], _, _, rfl, rfl, hfin _ _ _ HE1_3.out, ⟨[(.slice y2 j2 c2)], [], _, _, rfl, rfl, hfin _ _ _ HE2_3.out, ⟨rfl, rfl⟩⟩⟩⟩
  · exact (Keep.of_below HBW.out).trans2 (HK3.out.trans (HKS.out.mono (fun j _ e => .inr e))) (fun j e => by rcases e with e | e <;> first | exact .inl e | exact .inr (by have := HBE.out; omega))

end Go.Proofs.YtdfccaehoodjhaaGreat

set_option linter.unusedVariables false
set_option linter.unusedSimpArgs false
set_option maxRecDepth 100000
namespace Go.Proofs.YtdfccaehoodjhaaGreat
open Go.RowKit Go.Deep

/-- What stands behind the reading of a whole Call. -/
def AlCall (R : Nat) (w : World) (st : Rst) (en : Ending) (w' : World) : Prop := ∃ cs : List Value, en = .returned (.tuple #[.agg cs.toArray, .int .i64 (endS (rdF sCall st).2.1 (rdF sCall st).2.2)]) ∧ ((endS (rdF sCall st).2.1 (rdF sCall st).2.2) = 0 → EncN (fun j => w.heap.size ≤ j ∧ j < w'.heap.size) w' sCall cs (rdF sCall st).1) ∧ ((endS (rdF sCall st).2.1 (rdF sCall st).2.2) ≠ 0 → cs = [.int .u64 0, .int .u64 0, .slice none 0 0]) ∧ Keep (fun j => j = R) w w'
set_option maxHeartbeats 8000000 in
theorem aloneCall_any {w : World} {R : Nat} {st : Rst} (h : RAt w R st.1 st.2) (hl : st.1.length ≤ 140737488355328) :
    Calls Tryz.prog 30 #[.agg #[.pointer (some ⟨R, 0, none⟩)], (.func (.func 31) #[.agg #[.pointer (some ⟨R, 0, none⟩)]] #[])] w (AlCall R w st) := by
  have hb : Below w.heap.size w ((w.alloc (.cells #[.pointer (some ⟨R, 0, none⟩)] 85)).alloc (.cells #[.int .u64 0, .int .u64 0, .slice none 0 0] 27)) := ((Below.refl _ _).alloc (Nat.le_refl _) _).alloc (by simp) _
  have hz := (Below.heap_alloc (w.alloc (.cells #[.pointer (some ⟨R, 0, none⟩)] 85)) (.cells #[.int .u64 0, .int .u64 0, .slice none 0 0] 27) w.heap.size (by simp)).trans (heap_alloc_new w (.cells #[.pointer (some ⟨R, 0, none⟩)] 85))
  have hB := heap_alloc2_new w (.cells #[.pointer (some ⟨R, 0, none⟩)] 85) (.cells #[.int .u64 0, .int .u64 0, .slice none 0 0] 27)
  obtain ⟨B, hBe⟩ : ∃ B, B = w.heap.size + 1 := ⟨_, rfl⟩
  have hRw := h.lt
  have hRB : R < B := by omega
  have HR0 := hid (h.old hb)
  rw [← hBe] at hB
  have HB0 := hid hB
  have HX0 := hid hz
  have HBW := hid hb
  have HL0 := hid hl
  clear h hb hz hB hl
  go_enter Tryz.func30, Tryz.ntmps30
  go_upto_region 1 with fail
  generalize (w.alloc (.cells #[.pointer (some ⟨R, 0, none⟩)] 85)).alloc (.cells #[.int .u64 0, .int .u64 0, .slice none 0 0] 27) = w0 at *
  try rw [← hBe]
  have HBE := hid hBe
  clear hBe
  have CQ := hid (rCall_any HR0.out HL0.out)
  go_upto_region 2 with (first | (go_at_call 31; refine CQ.out.mono ?_; rintro en w1 ⟨mc, rfl, hv⟩; obtain ⟨u0, u1, u2, b0, b1, b2, rfl, _, e0, e1, e2⟩ := Call_cells (EncN.enc _ hv.1); obtain ⟨y0, rfl⟩ := form_num e0; obtain ⟨y1, rfl⟩ := form_num e1; obtain ⟨y2, j2, c2, rfl⟩ := form_data e2; clear e0 e1 e2; have HV := hid hv; clear hv))
  have hb2 : Below w1.heap.size w1 (w1.alloc (.cells #[(.int .u64 (y0 : Int)), (.int .u64 (y1 : Int)), (.slice y2 j2 c2)] 27)) := (Below.refl _ _).alloc (Nat.le_refl _) _
  have hx2 := heap_alloc_new w1 (.cells #[(.int .u64 (y0 : Int)), (.int .u64 (y1 : Int)), (.slice y2 j2 c2)] 27)
  have HV2 := hid (EncN.mono (fun j hj => (⟨hj.1, Nat.lt_of_lt_of_le hj.2 hb2.size⟩ : w0.heap.size ≤ j ∧ j < (w1.alloc (.cells #[(.int .u64 (y0 : Int)), (.int .u64 (y1 : Int)), (.slice y2 j2 c2)] 27)).heap.size)) _ (EncN.keep (Keep.of_below (X := fun _ => False) hb2) (fun _ _ e => e) _ HV.out.1))
  have HR2 := hid (HV.out.2.1.old hb2)
  have HB2 : Hid ((w1.alloc (.cells #[(.int .u64 (y0 : Int)), (.int .u64 (y1 : Int)), (.slice y2 j2 c2)] 27)).heap[B]? = some (.cells ([.int .u64 0, .int .u64 0, .slice none 0 0] : List Value).toArray 27 (0, 0))) := hid ((hb2.block B (Nat.lt_of_lt_of_le (lt_of_block HB0.out) HV.out.2.2.size)).trans ((HV.out.2.2.block B (lt_of_block HB0.out) (fun e => by have e9 : B = R := e; omega)).trans HB0.out))
  have HX2 := hid ((hb2.block w.heap.size (Nat.lt_of_lt_of_le (lt_of_block HX0.out) HV.out.2.2.size)).trans ((HV.out.2.2.block w.heap.size (lt_of_block HX0.out) (fun e => by have e9 : w.heap.size = R := e; omega)).trans HX0.out))
  have HXX : Hid ((w1.alloc (.cells #[(.int .u64 (y0 : Int)), (.int .u64 (y1 : Int)), (.slice y2 j2 c2)] 27)).heap[w1.heap.size]? = some (.cells ([(.int .u64 (y0 : Int)), (.int .u64 (y1 : Int)), (.slice y2 j2 c2)] : List Value).toArray 27 (0, 0))) := hid hx2
  have HK2 : Hid (Keep (fun j => j = R) w0 (w1.alloc (.cells #[(.int .u64 (y0 : Int)), (.int .u64 (y1 : Int)), (.slice y2 j2 c2)] 27))) := hid (HV.out.2.2.trans (Keep.of_below hb2))
  have HS1 : Hid (B < w1.heap.size) := hid (Nat.lt_of_lt_of_le (lt_of_block HB0.out) HV.out.2.2.size)
  clear hb2 hx2 CQ
  obtain ⟨X, hX⟩ : ∃ X, X = w1.heap.size := ⟨_, rfl⟩
  rw [← hX] at HXX HS1
  generalize w1.alloc (.cells #[(.int .u64 (y0 : Int)), (.int .u64 (y1 : Int)), (.slice y2 j2 c2)] 27) = w2 at *
  try rw [← hX]
  clear hX
  obtain ⟨ev, hev⟩ : ∃ ev, ev = (endS (rdF sCall st).2.1 (rdF sCall st).2.2) := ⟨_, rfl⟩
  have CE : Hid (Calls Tryz.prog 79 #[.pointer (some ⟨R, 0, none⟩)] w2 (fun en w' => en = .returned (.int .i64 ev) ∧ w2 = w')) := hid (by rw [hev]; exact endR_any w2 R _ _ HR2.out)
  have HEV := hid hev
  clear hev
  have x0 := (one_cell HX2.out).1
  by_cases h0 : ev = 0
  · subst h0
    obtain ⟨p0, m0⟩ := row_at HXX.out (i := 0) rfl
    obtain ⟨p1, m1⟩ := row_at HXX.out (i := 1) rfl
    obtain ⟨p2, m2⟩ := row_at HXX.out (i := 2) rfl
    obtain ⟨q0, r0⟩ := row_at HB2.out (i := 0) rfl
    obtain ⟨q1, r1⟩ := row_at HB2.out (i := 1) rfl
    obtain ⟨q2, r2⟩ := row_at HB2.out (i := 2) rfl
    have hs0 := HB2.out
    have hs1 := row_put hs0 0 (.int .u64 (y0 : Int))
    have hs2 := row_put hs1 1 (.int .u64 (y1 : Int))
    have hs3 := row_put hs2 2 (.slice y2 j2 c2)
    have HSF : Hid ((((w2.setCell ⟨B, 0, none⟩ (.int .u64 (y0 : Int))).setCell ⟨B, 1, none⟩ (.int .u64 (y1 : Int))).setCell ⟨B, 2, none⟩ (.slice y2 j2 c2)).heap[B]? = some (.cells #[(.int .u64 (y0 : Int)), (.int .u64 (y1 : Int)), (.slice y2 j2 c2)] 27 (0, 0))) := hs3
    have HKS : Hid (Keep (fun j => j = B) w2 (((w2.setCell ⟨B, 0, none⟩ (.int .u64 (y0 : Int))).setCell ⟨B, 1, none⟩ (.int .u64 (y1 : Int))).setCell ⟨B, 2, none⟩ (.slice y2 j2 c2))) := hid ((((Keep.refl (fun j => j = B) _).trans (Keep.set (X := fun j => j = B) _ ⟨B, 0, none⟩ (.int .u64 (y0 : Int)) rfl)).trans (Keep.set (X := fun j => j = B) _ ⟨B, 1, none⟩ (.int .u64 (y1 : Int)) rfl)).trans (Keep.set (X := fun j => j = B) _ ⟨B, 2, none⟩ (.slice y2 j2 c2) rfl))
    clear hs0 hs1 hs2 hs3
    go_wp2_with (first | (go_at_call 79; refine CE.out.mono ?_; rintro en w3 ⟨rfl, rfl⟩))
    refine bodyPost_ret (results_cell2 rfl _ _ B 27 _ (0, 0) _ rfl HSF.out Tryz.underlying27 rfl (by kernel_rfl)) rfl ?_
    refine ⟨[(.int .u64 (y0 : Int)), (.int .u64 (y1 : Int)), (.slice y2 j2 c2)], by rw [← HEV.out]; rfl, fun _ => EncN.mono (fun j hj => ⟨Nat.le_trans HBW.out.size hj.1, Nat.lt_of_lt_of_le hj.2 HKS.out.size⟩) _ (EncN.keep HKS.out (fun j hj e => by have e9 : j = B := e; have a9 := lt_of_block HB0.out; have := hj.1; omega) _ HV2.out), fun h9 => absurd HEV.out.symm h9, ?_⟩
    exact ((Keep.of_below HBW.out).trans HK2.out).trans2 HKS.out (fun j e => .inr (by have e9 : j = B := e; have := HBE.out; omega))
  · have hbe : (ev != 0) = true := by simp [h0]
    have hb3 : Below w2.heap.size w2 (w2.alloc (.cells #[.int .u64 0, .int .u64 0, .slice none 0 0] 27)) := (Below.refl _ _).alloc (Nat.le_refl _) _
    have hx3 : (w2.alloc (.cells #[.int .u64 0, .int .u64 0, .slice none 0 0] 27)).heap[w2.heap.size]? = some (.cells ([.int .u64 0, .int .u64 0, .slice none 0 0] : List Value).toArray 27 (0, 0)) := heap_alloc_new w2 (.cells #[.int .u64 0, .int .u64 0, .slice none 0 0] 27)
    have hB3 := (hb3.block B (lt_of_block HB2.out)).trans HB2.out
    have HB3 := hid hb3
    obtain ⟨p0, m0⟩ := row_at hx3 (i := 0) rfl
    obtain ⟨p1, m1⟩ := row_at hx3 (i := 1) rfl
    obtain ⟨p2, m2⟩ := row_at hx3 (i := 2) rfl
    obtain ⟨q0, r0⟩ := row_at hB3 (i := 0) rfl
    obtain ⟨q1, r1⟩ := row_at hB3 (i := 1) rfl
    obtain ⟨q2, r2⟩ := row_at hB3 (i := 2) rfl
    have hs0 := hB3
    have hs1 := row_put hs0 0 (.int .u64 0)
    have hs2 := row_put hs1 1 (.int .u64 0)
    have hs3 := row_put hs2 2 (.slice none 0 0)
    have HSF : Hid (((((w2.alloc (.cells #[.int .u64 0, .int .u64 0, .slice none 0 0] 27)).setCell ⟨B, 0, none⟩ (.int .u64 0)).setCell ⟨B, 1, none⟩ (.int .u64 0)).setCell ⟨B, 2, none⟩ (.slice none 0 0)).heap[B]? = some (.cells #[.int .u64 0, .int .u64 0, .slice none 0 0] 27 (0, 0))) := hs3
    have HKS : Hid (Keep (fun j => j = B) (w2.alloc (.cells #[.int .u64 0, .int .u64 0, .slice none 0 0] 27)) ((((w2.alloc (.cells #[.int .u64 0, .int .u64 0, .slice none 0 0] 27)).setCell ⟨B, 0, none⟩ (.int .u64 0)).setCell ⟨B, 1, none⟩ (.int .u64 0)).setCell ⟨B, 2, none⟩ (.slice none 0 0))) := hid ((((Keep.refl (fun j => j = B) _).trans (Keep.set (X := fun j => j = B) _ ⟨B, 0, none⟩ (.int .u64 0) rfl)).trans (Keep.set (X := fun j => j = B) _ ⟨B, 1, none⟩ (.int .u64 0) rfl)).trans (Keep.set (X := fun j => j = B) _ ⟨B, 2, none⟩ (.slice none 0 0) rfl))
    clear hb3 hx3 hB3 hs0 hs1 hs2 hs3
    go_wp2_with (first | (go_at_call 79; refine CE.out.mono ?_; rintro en w3 ⟨rfl, rfl⟩))
    refine bodyPost_ret (results_cell2 rfl _ _ B 27 _ (0, 0) _ rfl HSF.out Tryz.underlying27 rfl (by kernel_rfl)) rfl ?_
    refine ⟨[.int .u64 0, .int .u64 0, .slice none 0 0], by rw [← HEV.out]; rfl, fun h9 => absurd (HEV.out.trans h9) h0, fun _ => rfl, ?_⟩
    exact (((Keep.of_below HBW.out).trans HK2.out).trans (Keep.of_below HB3.out)).trans2 HKS.out (fun j e => .inr (by have e9 : j = B := e; have := HBE.out; omega))

theorem AlCall_forms {E : Int} {N : Nat → Prop} {w : World} {cs : List Value} {bs : List UInt8} (h1 : E = 0 → EncN N w sCall cs bs) (h2 : E ≠ 0 → cs = [.int .u64 0, .int .u64 0, .slice none 0 0]) : ∃ (y0 : Nat) (y1 : Nat) (y2 : Option Addr) (j2 : Nat) (c2 : Nat), cs = [.int .u64 (y0 : Int), .int .u64 (y1 : Int), .slice y2 j2 c2] := by
  by_cases h : E = 0
  · obtain ⟨u0, u1, u2, b0, b1, b2, rfl, _, e0, e1, e2⟩ := Call_cells (EncN.enc _ (h1 h))
    obtain ⟨y0, rfl⟩ := form_num e0
    obtain ⟨y1, rfl⟩ := form_num e1
    obtain ⟨y2, j2, c2, rfl⟩ := form_data e2
    exact ⟨y0, y1, y2, j2, c2, rfl⟩
  · exact ⟨_, _, _, _, _, h2 h⟩
/-- What TakeCall answers. -/
def TkCall (w : World) (l : List UInt8) (en : Ending) (w' : World) : Prop := ∃ cs : List Value, en = .returned (.tuple #[.agg cs.toArray, .int .i64 (endS (rdF sCall (l, 0)).2.1 (rdF sCall (l, 0)).2.2)]) ∧ ((endS (rdF sCall (l, 0)).2.1 (rdF sCall (l, 0)).2.2) = 0 → EncN (fun j => w.heap.size ≤ j ∧ j < w'.heap.size) w' sCall cs (rdF sCall (l, 0)).1) ∧ ((endS (rdF sCall (l, 0)).2.1 (rdF sCall (l, 0)).2.2) ≠ 0 → cs = [.int .u64 0, .int .u64 0, .slice none 0 0]) ∧ Below w.heap.size w w'
set_option maxHeartbeats 8000000 in
theorem takeCall_any (x : Value) (l : List UInt8) (w : World) (hx : Rd w x l) (hl : l.length ≤ 140737488355328) : Calls Tryz.prog 7 #[x] w (TkCall w l) := by
  have hb : Below w.heap.size w (w.alloc (.cells #[.int .u64 0, .int .u64 0, .slice none 0 0] 27)) := (Below.refl _ _).alloc (Nat.le_refl _) _
  have hB : (w.alloc (.cells #[.int .u64 0, .int .u64 0, .slice none 0 0] 27)).heap[w.heap.size]? = some (.cells ([.int .u64 0, .int .u64 0, .slice none 0 0] : List Value).toArray 27 (0, 0)) := heap_alloc_new w (.cells #[.int .u64 0, .int .u64 0, .slice none 0 0] 27)
  have CN := hid (new_any (w.alloc (.cells #[.int .u64 0, .int .u64 0, .slice none 0 0] 27)) x l (hx.old hb) hl)
  have HB := hid hB
  have HBW := hid hb
  have HL := hid hl
  clear hb hB hx hl
  go_enter Tryz.func7, Tryz.ntmps7
  go_upto_region 1 with fail
  generalize w.alloc (.cells #[.int .u64 0, .int .u64 0, .slice none 0 0] 27) = w1 at *
  go_upto_region 2 with (first | (go_at_call 29; refine CN.out.mono ?_; rintro en w2 ⟨R, rfl, hR1, hr, hb2⟩; have HR := hid hr; have HRB := hid (Nat.lt_of_lt_of_le (lt_of_block HB.out) hR1); have HB2 := hid ((hb2.block _ (lt_of_block HB.out)).trans HB.out); have HW2 := hid hb2; clear hr hR1 hb2))
  have hb3 : Below w2.heap.size w2 (w2.alloc (.cells #[.pointer (some ⟨R, 0, none⟩)] 85)) := (Below.refl _ _).alloc (Nat.le_refl _) _
  have HX3 := hid (heap_alloc_new w2 (.cells #[.pointer (some ⟨R, 0, none⟩)] 85))
  have HR3 := hid (HR.out.old hb3)
  have HB3 := hid ((hb3.block _ (lt_of_block HB2.out)).trans HB2.out)
  have HW3 := hid (HW2.out.trans (hb3.mono HW2.out.size))
  clear hb3
  obtain ⟨X, hX⟩ : ∃ X, X = w2.heap.size := ⟨_, rfl⟩
  rw [← hX] at HX3
  generalize w2.alloc (.cells #[.pointer (some ⟨R, 0, none⟩)] 85) = w3 at *
  try rw [← hX]
  clear hX
  have CA := hid (aloneCall_any (st := (l, 0)) HR3.out HL.out)
  have z0 := (one_cell HX3.out).1
  go_wp2_with (first | (go_at_call 30; refine CA.out.mono ?_; rintro en w4 ⟨cs, rfl, h1, h2, hk⟩; obtain ⟨y0, y1, y2, j2, c2, rfl⟩ := AlCall_forms h1 h2; have H1 := hid h1; have H2 := hid h2; have HK := hid hk; have hB4 := (hk.block _ (lt_of_block HB3.out) (fun e => by have e9 : w.heap.size = R := e; have := HRB.out; omega)).trans HB3.out; obtain ⟨q0, r0⟩ := row_at hB4 (i := 0) rfl; obtain ⟨q1, r1⟩ := row_at hB4 (i := 1) rfl; obtain ⟨q2, r2⟩ := row_at hB4 (i := 2) rfl; have HB4 := hid hB4; clear h1 h2 hk hB4))
  have hs0 := HB4.out
  have hs1 := row_put hs0 0 (.int .u64 (y0 : Int))
  have hs2 := row_put hs1 1 (.int .u64 (y1 : Int))
  have hs3 := row_put hs2 2 (.slice y2 j2 c2)
  have HSF : Hid ((((w4.setCell ⟨w.heap.size, 0, none⟩ (.int .u64 (y0 : Int))).setCell ⟨w.heap.size, 1, none⟩ (.int .u64 (y1 : Int))).setCell ⟨w.heap.size, 2, none⟩ (.slice y2 j2 c2)).heap[w.heap.size]? = some (.cells #[.int .u64 (y0 : Int), .int .u64 (y1 : Int), .slice y2 j2 c2] 27 (0, 0))) := hs3
  have HKS : Hid (Keep (fun j => j = w.heap.size) w4 (((w4.setCell ⟨w.heap.size, 0, none⟩ (.int .u64 (y0 : Int))).setCell ⟨w.heap.size, 1, none⟩ (.int .u64 (y1 : Int))).setCell ⟨w.heap.size, 2, none⟩ (.slice y2 j2 c2))) := hid ((((Keep.refl (fun j => j = w.heap.size) _).trans (Keep.set (X := fun j => j = w.heap.size) _ ⟨w.heap.size, 0, none⟩ (.int .u64 (y0 : Int)) rfl)).trans (Keep.set (X := fun j => j = w.heap.size) _ ⟨w.heap.size, 1, none⟩ (.int .u64 (y1 : Int)) rfl)).trans (Keep.set (X := fun j => j = w.heap.size) _ ⟨w.heap.size, 2, none⟩ (.slice y2 j2 c2) rfl))
  clear hs0 hs1 hs2 hs3
  refine bodyPost_ret (results_cell2 rfl _ _ w.heap.size 27 _ (0, 0) _ rfl HSF.out Tryz.underlying27 rfl (by kernel_rfl)) rfl ?_
  have a1 := HBW.out.size
  have a2 := lt_of_block HB.out
  have a3 := HW3.out.size
  refine ⟨_, rfl, fun h0 => EncN.mono (fun j hj => ⟨by have := hj.1; omega, Nat.lt_of_lt_of_le hj.2 HKS.out.size⟩) _ (EncN.keep HKS.out (fun j hj e => by have e9 : j = w.heap.size := e; have := hj.1; omega) _ (H1.out h0)), H2.out, ?_⟩
  exact (((Keep.of_below (X := fun _ => False) HBW.out).trans (Keep.of_below (X := fun _ => False) (HW3.out.mono (Nat.le_refl _)))).trans2 HK.out (fun j e => .inr (by have e9 : j = R := e; have := HRB.out; omega))).trans2 HKS.out (fun j e => .inr (by have e9 : j = w.heap.size := e; omega)) |>.below (Nat.le_refl _) (fun k e => e.elim)

end Go.Proofs.YtdfccaehoodjhaaGreat

set_option linter.unusedVariables false
set_option linter.unusedSimpArgs false
set_option maxRecDepth 100000
namespace Go.Proofs.YtdfccaehoodjhaaGreat
open Go.RowKit Go.Deep

theorem rdLF_more9 (f : Rst → List UInt8 × Rst) (n : Nat) (st : Rst) (h : (f st).2.2 = 0) : rdLF f (n + 1) st = ((rdLF f n (f st).2).1 + 1, (f st).1 ++ (rdLF f n (f st).2).2.1, (rdLF f n (f st).2).2.2) := by
  rw [rdLF, if_neg (by simpa using h)]
theorem rdLF_stop9 (f : Rst → List UInt8 × Rst) (n : Nat) (st : Rst) (h : (f st).2.2 ≠ 0) : rdLF f (n + 1) st = (1, (f st).1, (f st).2) := by
  rw [rdLF, if_pos h]

def Sh.full : Sh → Bool
  | .nil => false
  | .cons s r => s.full || r.full
  | _ => true
def Sh.good : Sh → Bool
  | .list s => s.full && s.good
  | .cons s r => s.good && r.good
  | _ => true

theorem full_pos {W : World} : ∀ (s : Sh) {cs : List Value} {b : List UInt8}, s.full = true → Enc W s cs b → 1 ≤ b.length
  | .num, cs, b, _, h => by obtain ⟨n, _, _, rfl⟩ := h; exact numL_pos _
  | .int, cs, b, _, h => by obtain ⟨n, _, _, rfl⟩ := h; exact numL_pos _
  | .bool, cs, b, _, h => by obtain ⟨n, _, rfl⟩ := h; exact numL_pos _
  | .data, cs, b, _, h => by obtain ⟨x, l, _, _, _, _, rfl⟩ := h; unfold textL; rw [List.length_append]; have := numL_pos l.length; omega
  | .name, cs, b, _, h => by obtain ⟨l, _, _, rfl⟩ := h; unfold textL; rw [List.length_append]; have := numL_pos l.length; omega
  | .list s, cs, b, _, h => by obtain ⟨a, c, M, _, _, _, _, rfl⟩ := h; rw [List.length_append]; have := numL_pos M.length; omega
  | .nil, cs, b, hf, h => by cases hf
  | .cons s r, cs, b, hf, h => by
    obtain ⟨c1, c2, b1, b2, _, rfl, h1, h2⟩ := h
    simp only [Sh.full, Bool.or_eq_true] at hf
    rw [List.length_append]
    rcases hf with hf | hf
    · have := full_pos s hf h1; omega
    · have := full_pos r hf h2; omega

/-- What is written is read. -/
theorem rd_back {W : World} : ∀ (s : Sh) {cs : List Value} {b : List UInt8} (r : List UInt8), s.good = true → Enc W s cs b → b.length ≤ 5000 → rdF s (b ++ r, 0) = (b, r, 0)
  | .num, cs, b, r, _, h, hl => by
    obtain ⟨n, hn, _, rfl⟩ := h
    simp only [rdF, lookS_back (v := n) (m := maxU) (by omega) (by unfold maxU; omega) r, List.drop_left]
  | .int, cs, b, r, _, h, hl => by
    obtain ⟨z, hz, _, rfl⟩ := h
    have := zig_lt hz
    simp only [rdF, lookS_back (v := zig z) (m := maxU) (by omega) (by unfold maxU; omega) r, List.drop_left, unzig_zig hz]
  | .bool, cs, b, r, _, h, hl => by
    obtain ⟨q, _, rfl⟩ := h
    cases q <;> simp [rdF, lookS_back (v := 0) (m := 1) (by omega) (by omega) r, lookS_back (v := 1) (m := 1) (by omega) (by omega) r, List.drop_left]
  | .data, cs, b, r, _, h, hl => by
    obtain ⟨x, l, _, _, _, _, rfl⟩ := h
    have : l.length ≤ 5000 := by unfold textL at hl; rw [List.length_append] at hl; omega
    simp only [rdF, textS_back (b := l) (m := 65536) (by omega) (by omega) r, List.drop_left]
  | .name, cs, b, r, _, h, hl => by
    obtain ⟨l, _, _, rfl⟩ := h
    have : l.length ≤ 5000 := by unfold textL at hl; rw [List.length_append] at hl; omega
    simp only [rdF, textS_back (b := l) (m := 65536) (by omega) (by omega) r, List.drop_left]
  | .list s, cs, b, r, hg, h, hl => by
    obtain ⟨a, c, M, _, _, hM, _, rfl⟩ := h
    simp only [Sh.good, Bool.and_eq_true] at hg
    have hfl : (M.map (·.2)).flatten.length ≤ 5000 := by rw [List.length_append] at hl; omega
    have hle0 : ∀ L : List (List Value × List UInt8), (∀ m ∈ L, Enc W s m.1 m.2) → L.length ≤ (L.map (·.2)).flatten.length := fun L => by
      induction L with
      | nil => intro _; simp
      | cons m L ih =>
        intro hL
        have h1 := full_pos s hg.1 (hL m (by simp))
        have h2 := ih (fun x hx => hL x (by simp [hx]))
        simp only [List.map_cons, List.flatten_cons, List.length_append, List.length_cons]
        omega
    have hle := hle0 M hM
    have key : ∀ L : List (List Value × List UInt8), (∀ m ∈ L, Enc W s m.1 m.2) → (L.map (·.2)).flatten.length ≤ 5000 → rdLF (rdF s) L.length ((L.map (·.2)).flatten ++ r, 0) = (L.length, (L.map (·.2)).flatten, r, 0) := fun L => by
      induction L with
      | nil => intro _ _; rfl
      | cons m L ih =>
        intro hL hq
        simp only [List.map_cons, List.flatten_cons, List.length_append] at hq
        have h1 := rd_back s ((L.map (·.2)).flatten ++ r) hg.2 (hL m (by simp)) (by omega)
        have h2 := ih (fun x hx => hL x (by simp [hx])) (by omega)
        simp only [List.map_cons, List.flatten_cons, List.length_cons, List.append_assoc]
        rw [rdLF_more9 _ _ _ (by rw [h1]), h1, h2]
    have hk := key M hM hfl
    simp only [rdF, List.append_assoc, lookS_back (v := M.length) (m := 5000) (by omega) (by omega) ((M.map (·.2)).flatten ++ r), List.drop_left, hk]
  | .nil, cs, b, r, _, h, hl => by obtain ⟨_, rfl⟩ := h; rfl
  | .cons s t, cs, b, r, hg, h, hl => by
    obtain ⟨c1, c2, b1, b2, _, rfl, h1, h2⟩ := h
    simp only [Sh.good, Bool.and_eq_true] at hg
    rw [List.length_append] at hl
    have e1 := rd_back s (b2 ++ r) hg.1 h1 (by omega)
    have e2 := rd_back t r hg.2 h2 (by omega)
    simp only [rdF, List.append_assoc, e1, e2]
end Go.Proofs.YtdfccaehoodjhaaGreat

set_option linter.unusedVariables false
set_option linter.unusedSimpArgs false
set_option maxRecDepth 100000
namespace Go.Proofs.YtdfccaehoodjhaaGreat
open Go.RowKit Go.Deep

theorem lookS_bad {m : Nat} {l : List UInt8} {e : Int} (h : e ≠ 0) : lookS m l e = (0, 0, e) := by unfold lookS; rw [if_pos h]
theorem textS_bad {m : Nat} {l : List UInt8} {e : Int} (h : e ≠ 0) : textS m l e = ([], 0, e) := by
  unfold textS
  rw [lookS_bad h]
  simp

/-- A reader with a fault stays as it is. -/
theorem rd_bad : ∀ (s : Sh) (st : Rst), st.2 ≠ 0 → (rdF s st).2 = st
  | .num, st, h => by simp only [rdF, lookS_bad h, List.drop_zero]
  | .int, st, h => by simp only [rdF, lookS_bad h, List.drop_zero]
  | .bool, st, h => by simp only [rdF, lookS_bad h, List.drop_zero]
  | .data, st, h => by simp only [rdF, textS_bad h, List.drop_zero]
  | .name, st, h => by simp only [rdF, textS_bad h, List.drop_zero]
  | .list s, st, h => by simp only [rdF, lookS_bad h, List.drop_zero, rdLF]
  | .nil, st, h => rfl
  | .cons s r, st, h => by
    have h1 := rd_bad s st h
    simp only [rdF]
    rw [h1]
    exact rd_bad r st h

/-- A number's beginning is too short. -/
theorem rdN_short : ∀ (k i v n : Nat), i + k = 9 → n < 2 * 128 ^ k → ∀ j, j < (numL n).length → rdN i v ((numL n).take j) = (0, 0, 8) := fun k => by
  induction k with
  | zero =>
    intro i v n hi hn j hj
    rw [numL_lt (by omega)] at hj ⊢
    obtain rfl : j = 0 := by simp at hj; omega
    rfl
  | succ k ih =>
    intro i v n hi hn j hj
    by_cases h : n < 128
    · rw [numL_lt h] at hj ⊢
      obtain rfl : j = 0 := by simp at hj; omega
      rfl
    · rw [numL_ge (by omega)] at hj ⊢
      cases j with
      | zero => rfl
      | succ j =>
        have hm := moreB_toNat n
        rw [List.take_succ_cons, rdN_more (by omega) (by rw [hm]; omega)]
        exact ih (i + 1) _ (n / 128) (by omega) (by rw [Nat.pow_succ] at hn; omega) j (by simpa using hj)

theorem lookS_short {m n j : Nat} (hn : n < 2 ^ 64) (hj : j < (numL n).length) : lookS m ((numL n).take j) 0 = (0, 0, 8) := by
  have := rdN_short 9 0 0 n rfl (by omega) j hj
  unfold lookS
  rw [if_neg (by simp), this]
  simp

theorem textS_short {m j : Nat} {l : List UInt8} (hl : l.length ≤ 5000) (hm : 5000 ≤ m) (hj : j < (textL l).length) : (textS m ((textL l).take j) 0).2.2 = 8 := by
  unfold textL at hj ⊢
  by_cases h : j < (numL l.length).length
  · rw [List.take_append_of_le_length (by omega)]
    unfold textS
    rw [lookS_short (by omega) h]
    simp
  · rw [List.length_append] at hj
    rw [List.take_append, List.take_of_length_le (by omega)]
    unfold textS
    rw [lookS_back (v := l.length) (m := m) (by omega) (by omega)]
    have hp := numL_pos l.length
    simp only
    rw [if_neg (by omega), if_pos (by simp only [List.length_append, List.length_take]; omega)]

/-- A beginning of what was written is too short. -/
theorem rd_short {W : World} : ∀ (s : Sh) {cs : List Value} {b : List UInt8} (j : Nat), s.good = true → Enc W s cs b → b.length ≤ 5000 → j < b.length → (rdF s (b.take j, 0)).2.2 = 8
  | .num, cs, b, j, _, h, hl, hj => by
    obtain ⟨n, hn, _, rfl⟩ := h
    simp only [rdF, lookS_short (m := maxU) (n := n) (by omega) hj]
  | .int, cs, b, j, _, h, hl, hj => by
    obtain ⟨z, hz, _, rfl⟩ := h
    have := zig_lt hz
    simp only [rdF, lookS_short (m := maxU) (n := zig z) (by omega) hj]
  | .bool, cs, b, j, _, h, hl, hj => by
    obtain ⟨q, _, rfl⟩ := h
    simp only [rdF, lookS_short (m := 1) (n := if q then 1 else 0) (by split <;> decide) hj]
  | .data, cs, b, j, _, h, hl, hj => by
    obtain ⟨x, l, _, _, _, _, rfl⟩ := h
    have : l.length ≤ 5000 := by unfold textL at hl; rw [List.length_append] at hl; omega
    simp only [rdF, textS_short (m := 65536) this (by omega) hj]
  | .name, cs, b, j, _, h, hl, hj => by
    obtain ⟨l, _, _, rfl⟩ := h
    have : l.length ≤ 5000 := by unfold textL at hl; rw [List.length_append] at hl; omega
    simp only [rdF, textS_short (m := 65536) this (by omega) hj]
  | .list s, cs, b, j, hg, h, hl, hj => by
    obtain ⟨a, c, M, _, _, hM, hM6, rfl⟩ := h
    simp only [Sh.good, Bool.and_eq_true] at hg
    by_cases hjn : j < (numL M.length).length
    · rw [List.take_append_of_le_length (by omega)]
      simp only [rdF, lookS_short (m := 5000) (n := M.length) (by omega) hjn]
      simp only [rdLF]
    · have hfl : (M.map (·.2)).flatten.length ≤ 5000 := by rw [List.length_append] at hl; omega
      have hle0 : ∀ L : List (List Value × List UInt8), (∀ m ∈ L, Enc W s m.1 m.2) → L.length ≤ (L.map (·.2)).flatten.length := fun L => by
        induction L with
        | nil => intro _; simp
        | cons m L ih =>
          intro hL
          have h1 := full_pos s hg.1 (hL m (by simp))
          have h2 := ih (fun x hx => hL x (by simp [hx]))
          simp only [List.map_cons, List.flatten_cons, List.length_append, List.length_cons]
          omega
      have hle := hle0 M hM
      have key : ∀ (L : List (List Value × List UInt8)) (i : Nat), (∀ m ∈ L, Enc W s m.1 m.2) → (L.map (·.2)).flatten.length ≤ 5000 → i < (L.map (·.2)).flatten.length → (rdLF (rdF s) L.length ((L.map (·.2)).flatten.take i, 0)).2.2.2 = 8 := fun L => by
        induction L with
        | nil => intro i _ _ h; simp at h
        | cons m L ih =>
          intro i hL hq hi
          simp only [List.map_cons, List.flatten_cons, List.length_append] at hq hi ⊢
          rw [List.length_cons]
          by_cases him : i < m.2.length
          · rw [List.take_append_of_le_length (by omega)]
            have h8 := rd_short s i hg.2 (hL m (by simp)) (by omega) him
            rw [rdLF_stop9 _ _ _ (by rw [h8]; decide)]
            exact h8
          · rw [List.take_append, List.take_of_length_le (by omega)]
            have h1 := rd_back s ((L.map (·.2)).flatten.take (i - m.2.length)) hg.2 (hL m (by simp)) (by omega)
            rw [rdLF_more9 _ _ _ (by rw [h1]), h1]
            exact ih (i - m.2.length) (fun x hx => hL x (by simp [hx])) (by omega) (by omega)
      rw [List.take_append, List.take_of_length_le (by omega)]
      rw [List.length_append] at hj
      simp only [rdF, lookS_back (v := M.length) (m := 5000) (by omega) (by omega) ((M.map (·.2)).flatten.take (j - (numL M.length).length)), List.drop_left]
      exact key M _ hM hfl (by omega)
  | .nil, cs, b, j, _, h, hl, hj => by obtain ⟨_, rfl⟩ := h; simp at hj
  | .cons s t, cs, b, j, hg, h, hl, hj => by
    obtain ⟨c1, c2, b1, b2, _, rfl, h1, h2⟩ := h
    simp only [Sh.good, Bool.and_eq_true] at hg
    rw [List.length_append] at hl hj
    by_cases hjb : j < b1.length
    · rw [List.take_append_of_le_length (by omega)]
      have h8 := rd_short s j hg.1 h1 (by omega) hjb
      simp only [rdF]
      rw [rd_bad t _ (by rw [h8]; decide)]
      exact h8
    · rw [List.take_append, List.take_of_length_le (by omega)]
      have e1 := rd_back s (b2.take (j - b1.length)) hg.1 h1 (by omega)
      simp only [rdF, e1]
      exact rd_short t (j - b1.length) hg.2 h2 (by omega) (by omega)
end Go.Proofs.YtdfccaehoodjhaaGreat

set_option linter.unusedVariables false
set_option linter.unusedSimpArgs false
set_option maxRecDepth 100000
namespace Go.Proofs.YtdfccaehoodjhaaGreat
open Go.RowKit Go.Deep

section
variable {P : Program} {ops : Array Oper} {rest : List Oper} {o : Oper} {a : Act} {w : World} {Q : Exit → Act → World → Prop}
theorem wpList_readG (hg : Region.wanted o (yielded ops a.tmps) = true) (d : Option Tmp) (hd : o.dst = d) (v : Value) (hrun : (execOp a.eval o).run P w = .ok (.value v) w)
    (h : wpList P ops Q rest (a.put d v) w) : wpList P ops Q (o :: rest) a w := by
  subst hd
  refine wpList_step fun K hK => ?_
  rw [if_pos hg]
  unfold Oper.wp
  rw [hrun]
  exact hK _ _ h
theorem wpList_callG (hg : Region.wanted o (yielded ops a.tmps) = true) (d : Option Tmp) (hd : o.dst = d)
    (f : FuncId) (args : Array Value) (hrun : (execOp a.eval o).run P w = .ok (.enter f args) w) {F : Ending → World → Prop} (hc : Calls P f args w F)
    (h : ∀ e w'', F e w'' → ∃ v, e = .returned v ∧ wpList P ops Q rest (a.put d v) w'') : wpList P ops Q (o :: rest) a w := by
  subst hd
  refine wpList_step fun K hK => ?_
  rw [if_pos hg]
  unfold Oper.wp
  rw [hrun, Oper.upon_enter]
  refine hc.mono fun e w'' hh => ?_
  obtain ⟨v, rfl, h9⟩ := h e w'' hh
  exact hK _ _ h9
end

theorem box_at (W : World) (o0 o1 o2 o3 : Obj) : ((((W.alloc o0).alloc o1).alloc o2).alloc o3).heap[W.heap.size]? = some o0 ∧ ((((W.alloc o0).alloc o1).alloc o2).alloc o3).heap[W.heap.size + 1]? = some o1 ∧
    ((((W.alloc o0).alloc o1).alloc o2).alloc o3).heap[W.heap.size + 2]? = some o2 ∧ ((((W.alloc o0).alloc o1).alloc o2).alloc o3).heap[W.heap.size + 3]? = some o3 ∧ Below W.heap.size W ((((W.alloc o0).alloc o1).alloc o2).alloc o3) := by
  have s1 : (W.alloc o0).heap.size = W.heap.size + 1 := by simp
  have s2 : ((W.alloc o0).alloc o1).heap.size = W.heap.size + 2 := by simp
  have s3 : (((W.alloc o0).alloc o1).alloc o2).heap.size = W.heap.size + 3 := by simp
  have b1 : Below W.heap.size W (W.alloc o0) := (Below.refl _ _).alloc (Nat.le_refl _) _
  have b2 : Below W.heap.size W ((W.alloc o0).alloc o1) := b1.alloc (by omega) _
  have b3 : Below W.heap.size W (((W.alloc o0).alloc o1).alloc o2) := b2.alloc (by omega) _
  have a0 := heap_alloc_new W o0
  have a1 := heap_alloc_new (W.alloc o0) o1
  have a2 := heap_alloc_new ((W.alloc o0).alloc o1) o2
  have a3 := heap_alloc_new (((W.alloc o0).alloc o1).alloc o2) o3
  rw [s1] at a1
  rw [s2] at a2
  rw [s3] at a3
  have k1 := Below.heap_alloc (W.alloc o0) o1
  have k2 := Below.heap_alloc ((W.alloc o0).alloc o1) o2
  have k3 := Below.heap_alloc (((W.alloc o0).alloc o1).alloc o2) o3
  generalize ((W.alloc o0).alloc o1).alloc o2 = w3 at *
  generalize (W.alloc o0).alloc o1 = w2 at *
  generalize W.alloc o0 = w1 at *
  refine ⟨(k3 _ (by omega)).trans ((k2 _ (by omega)).trans ((k1 _ (by omega)).trans a0)), (k3 _ (by omega)).trans ((k2 _ (by omega)).trans a1), (k3 _ (by omega)).trans a2, a3, b3.alloc (by omega) _⟩

/-- A row that is loaded at once. -/
theorem row_load {w : World} {B : Nat} {V : Array Value} {T t : TypeId} {d : TypeDesc} (h : w.heap[B]? = some (.cells V T (0, 0))) (hu : Tryz.prog.underlying t = some d) (hd : d.isRow = true) (hi : (Tryz.prog.info? t).map (·.size) = some V.size) : (Instr.loadAt t (.pointer (some ⟨B, 0, none⟩))).run Tryz.prog w = .ok (.agg V) w := by
  have hl9 : V = V.toList.toArray := by simp
  have LD := cells_load (V := w) (B := B) (cs := V.toList) (t := t) (fun i u hi => (row_at (t := T) (by rw [← hl9]; exact h) hi).1) hu hd (by rw [Array.length_toList]; exact hi)
  rw [← hl9] at LD
  exact LD

/-- What a reader tells. -/
def TkR (s : Sh) (z : List Value) (w : World) (l : List UInt8) (en : Ending) (w' : World) : Prop := ∃ cs : List Value, en = .returned (.tuple #[.agg cs.toArray, .int .i64 (endS (rdF s (l, 0)).2.1 (rdF s (l, 0)).2.2)]) ∧ ((endS (rdF s (l, 0)).2.1 (rdF s (l, 0)).2.2) = 0 → EncN (fun j => w.heap.size ≤ j ∧ j < w'.heap.size) w' s cs (rdF s (l, 0)).1) ∧ ((endS (rdF s (l, 0)).2.1 (rdF s (l, 0)).2.2) ≠ 0 → cs = z) ∧ Below w.heap.size w w'

theorem TkR.ok {s : Sh} {z : List Value} {w w' : World} {l : List UInt8} {en : Ending} (hr : rdF s (l, 0) = (l, [], 0)) (h : TkR s z w l en w') : ∃ cs : List Value, en = .returned (.tuple #[.agg cs.toArray, .int .i64 0]) ∧ Enc w' s cs l ∧ Below w.heap.size w w' := by
  obtain ⟨cs, rfl, h1, h2, h3⟩ := h
  rw [hr] at h1 ⊢
  exact ⟨cs, rfl, EncN.enc _ (h1 rfl), h3⟩

/-- In any case: a row of the right width; well if it all was read. -/
theorem TkR.any {s : Sh} {z : List Value} {w w' : World} {l : List UInt8} {en : Ending} (hz : z.length = s.wid ∧ z.toArray.all (·.oneCell') = true) (h : TkR s z w l en w') : ∃ (V : Array Value) (e : Int), en = .returned (.tuple #[.agg V, .int .i64 e]) ∧ e = endS (rdF s (l, 0)).2.1 (rdF s (l, 0)).2.2 ∧ V.size = s.wid ∧ V.all (·.oneCell') = true ∧ (e = 0 → EncN (fun j => w.heap.size ≤ j ∧ j < w'.heap.size) w' s V.toList (rdF s (l, 0)).1) ∧ (e ≠ 0 → V = z.toArray) ∧ Below w.heap.size w w' := by
  obtain ⟨cs, rfl, h1, h2, h3⟩ := h
  refine ⟨cs.toArray, _, rfl, rfl, ?_, ?_, fun e => by simpa using h1 e, fun e => by rw [h2 e], h3⟩
  · by_cases e : endS (rdF s (l, 0)).2.1 (rdF s (l, 0)).2.2 = 0
    · exact (EncN.row (h1 e)).1
    · rw [h2 e]; simpa using hz.1
  · by_cases e : endS (rdF s (l, 0)).2.1 (rdF s (l, 0)).2.2 = 0
    · exact (EncN.row (h1 e)).2
    · rw [h2 e]; exact hz.2

/-- The zero cells. -/
def zCall : List Value := [.int .u64 0, .int .u64 0, .slice none 0 0]
theorem alloc_Call (ρ : Operand → Value) (w : World) (d : Option Tmp) (t : TypeId) (p : String) (af : Array Edge) : (execOp ρ { dst := d, op := .alloc 27, type := t, pos := p, after := af, guard := none }).run Tryz.prog w = .ok (.value (.pointer (some ⟨w.heap.size, 0, none⟩))) (w.alloc (.cells zCall.toArray 27)) := by as_aux_lemma => kernel_rfl
theorem zCall_row : zCall.toArray.size = 3 ∧ zCall.toArray.all (·.oneCell') = true := ⟨rfl, by simp [zCall, Value.oneCell']⟩
/-- The zero cells. -/
def zReply : List Value := [.int .i64 0, .int .u64 0, .int .i64 0, .bool false, .slice none 0 0, .slice none 0 0, .int .i64 0, .int .i64 0, .slice none 0 0, .slice none 0 0, .int .i64 0, .int .i64 0, .slice none 0 0, .int .i64 0, .slice none 0 0]
theorem alloc_Reply (ρ : Operand → Value) (w : World) (d : Option Tmp) (t : TypeId) (p : String) (af : Array Edge) : (execOp ρ { dst := d, op := .alloc 55, type := t, pos := p, after := af, guard := none }).run Tryz.prog w = .ok (.value (.pointer (some ⟨w.heap.size, 0, none⟩))) (w.alloc (.cells zReply.toArray 55)) := by as_aux_lemma => kernel_rfl
theorem zReply_row : zReply.toArray.size = 15 ∧ zReply.toArray.all (·.oneCell') = true := ⟨rfl, by simp [zReply, Value.oneCell']⟩
/-- The zero cells. -/
def zAsk : List Value := [.int .i64 0, .slice none 0 0, .int .i64 0, .string ⟨#[]⟩, .slice none 0 0, .slice none 0 0, .int .i64 0, .int .i64 0, .string ⟨#[]⟩, .slice none 0 0, .bool false, .int .i64 0, .bool false, .string ⟨#[]⟩, .int .i64 0, .slice none 0 0]
theorem alloc_Ask (ρ : Operand → Value) (w : World) (d : Option Tmp) (t : TypeId) (p : String) (af : Array Edge) : (execOp ρ { dst := d, op := .alloc 62, type := t, pos := p, after := af, guard := none }).run Tryz.prog w = .ok (.value (.pointer (some ⟨w.heap.size, 0, none⟩))) (w.alloc (.cells zAsk.toArray 62)) := by as_aux_lemma => kernel_rfl
theorem zAsk_row : zAsk.toArray.size = 16 ∧ zAsk.toArray.all (·.oneCell') = true := ⟨rfl, by simp [zAsk, Value.oneCell']⟩
theorem zCall_wide : zCall.length = sCall.wid ∧ zCall.toArray.all (·.oneCell') = true := ⟨rfl, zCall_row.2⟩
theorem info_Call : (Tryz.prog.info? 27).map (·.size) = some 3 := by kernel_rfl
theorem tkCall_any (x : Value) (l : List UInt8) (w : World) (hx : Rd w x l) (hl : l.length ≤ 140737488355328) : Calls Tryz.prog 7 #[x] w (TkR sCall zCall w l) := takeCall_any x l w hx hl
theorem zCommand_wide : zCommand.length = sCommand.wid ∧ zCommand.toArray.all (·.oneCell') = true := ⟨rfl, zCommand_row.2⟩
theorem info_Command : (Tryz.prog.info? 43).map (·.size) = some 25 := by kernel_rfl
theorem tkCommand_any (x : Value) (l : List UInt8) (w : World) (hx : Rd w x l) (hl : l.length ≤ 140737488355328) : Calls Tryz.prog 9 #[x] w (TkR sCommand zCommand w l) := takeCommand_any x l w hx hl
theorem zReply_wide : zReply.length = sReply.wid ∧ zReply.toArray.all (·.oneCell') = true := ⟨rfl, zReply_row.2⟩
theorem info_Reply : (Tryz.prog.info? 55).map (·.size) = some 15 := by kernel_rfl
theorem tkReply_any (x : Value) (l : List UInt8) (w : World) (hx : Rd w x l) (hl : l.length ≤ 140737488355328) : Calls Tryz.prog 11 #[x] w (TkR sReply zReply w l) := takeReply_any x l w hx hl
theorem zAsk_wide : zAsk.length = sAsk.wid ∧ zAsk.toArray.all (·.oneCell') = true := ⟨rfl, zAsk_row.2⟩
theorem info_Ask : (Tryz.prog.info? 62).map (·.size) = some 16 := by kernel_rfl
theorem tkAsk_any (x : Value) (l : List UInt8) (w : World) (hx : Rd w x l) (hl : l.length ≤ 140737488355328) : Calls Tryz.prog 15 #[x] w (TkR sAsk zAsk w l) := takeAsk_any x l w hx hl
end Go.Proofs.YtdfccaehoodjhaaGreat

set_option linter.unusedVariables false
set_option linter.unusedSimpArgs false
set_option maxRecDepth 100000
namespace Go.Proofs.YtdfccaehoodjhaaGreat
open Go.RowKit Go.Deep

set_option maxHeartbeats 8000000 in
theorem wValue_any {W0 w : World} {KK : List (Nat × Obj)} {a : Nat} {l : List UInt8} {v0 v1 v2 : Value} {b0 b1 b2 : List UInt8} (h : St 138 W0 KK a w l) (e0 : Enc W0 .int [v0] b0) (e1 : Enc W0 .int [v1] b1) (e2 : Enc W0 .name [v2] b2) (hl : l.length + (b0 ++ (b1 ++ b2)).length ≤ 1000000000000) :
    Calls Tryz.prog 202 #[.pointer (some ⟨a, 0, none⟩), .agg #[v0, v1, v2]] w (Wrote 138 W0 KK a l (b0 ++ (b1 ++ b2))) := by
  have H0 := hid (h.box #[v0, v1, v2] 209)
  have HL0 := hid hl
  have E0 := hid e0
  have E1 := hid e1
  have E2 := hid e2
  clear h hl e0 e1 e2
  go_enter Tryz.func202, Tryz.ntmps202
  go_upto_region 1 with fail
  generalize w.alloc (.cells #[v0, v1, v2] 209) = w0 at *
  generalize w.heap.size = B at *
  have x0 := box_cell H0.out 0 v0 rfl
  have HN0 := hid (len_now HL0.out)
  have HL1 := hid (len_step HL0.out)
  go_upto_region 2 with (first | (go_at_call 140; refine (wwholeE H0.out E0.out HN0.out).mono ?_; rintro en w1 ⟨rfl, h1⟩; have H1 := hid h1; clear h1))
  clear x0
  have x1 := box_cell H1.out 1 v1 rfl
  have HN1 := hid (len_now HL1.out)
  have HL2 := hid (len_step HL1.out)
  go_upto_region 3 with (first | (go_at_call 193; refine (wsignedE H1.out E1.out HN1.out).mono ?_; rintro en w2 ⟨rfl, h2⟩; have H2 := hid h2; clear h2))
  clear x1
  have x2 := box_cell H2.out 2 v2 rfl
  go_wp2_with (first | (go_at_call 151; refine (wnameE H2.out E2.out HL2.out).mono ?_; rintro en w3 ⟨rfl, h3⟩; have H3 := hid h3; clear h3))
  clear x2
  go_end0
  exact ⟨rfl, by simpa only [List.append_assoc] using H3.out.drop⟩

set_option maxHeartbeats 8000000 in
theorem wColumn_any {W0 w : World} {KK : List (Nat × Obj)} {a : Nat} {l : List UInt8} {v0 v1 v2 : Value} {b0 b1 b2 : List UInt8} (h : St 138 W0 KK a w l) (e0 : Enc W0 .name [v0] b0) (e1 : Enc W0 .int [v1] b1) (e2 : Enc W0 .bool [v2] b2) (hl : l.length + (b0 ++ (b1 ++ b2)).length ≤ 1000000000000) :
    Calls Tryz.prog 195 #[.pointer (some ⟨a, 0, none⟩), .agg #[v0, v1, v2]] w (Wrote 138 W0 KK a l (b0 ++ (b1 ++ b2))) := by
  have H0 := hid (h.box #[v0, v1, v2] 199)
  have HL0 := hid hl
  have E0 := hid e0
  have E1 := hid e1
  have E2 := hid e2
  clear h hl e0 e1 e2
  go_enter Tryz.func195, Tryz.ntmps195
  go_upto_region 1 with fail
  generalize w.alloc (.cells #[v0, v1, v2] 199) = w0 at *
  generalize w.heap.size = B at *
  have x0 := box_cell H0.out 0 v0 rfl
  have HN0 := hid (len_now HL0.out)
  have HL1 := hid (len_step HL0.out)
  go_upto_region 2 with (first | (go_at_call 151; refine (wnameE H0.out E0.out HN0.out).mono ?_; rintro en w1 ⟨rfl, h1⟩; have H1 := hid h1; clear h1))
  clear x0
  have x1 := box_cell H1.out 1 v1 rfl
  have HN1 := hid (len_now HL1.out)
  have HL2 := hid (len_step HL1.out)
  go_upto_region 3 with (first | (go_at_call 140; refine (wwholeE H1.out E1.out HN1.out).mono ?_; rintro en w2 ⟨rfl, h2⟩; have H2 := hid h2; clear h2))
  clear x1
  have x2 := box_cell H2.out 2 v2 rfl
  go_wp2_with (first | (go_at_call 141; refine (wflagE H2.out E2.out HL2.out).mono ?_; rintro en w3 ⟨rfl, h3⟩; have H3 := hid h3; clear h3))
  clear x2
  go_end0
  exact ⟨rfl, by simpa only [List.append_assoc] using H3.out.drop⟩

set_option maxHeartbeats 4000000 in
theorem wlist_Column {W0 w : World} {KK : List (Nat × Obj)} {a : Nat} {l : List UInt8} {v : Value} {b : List UInt8} (h : St 138 W0 KK a w l) (e : Enc W0 (.list sColumn) [v] b) (hl : l.length + b.length ≤ 1000000000000) :
    Calls Tryz.prog 194 #[.pointer (some ⟨a, 0, none⟩), v, (.func (.func 195) #[.pointer (some ⟨a, 0, none⟩)] #[])] w (Wrote 138 W0 KK a l b) := by
  obtain ⟨ao, n, c, M, rfl, hL, rfl⟩ := list_open e
  obtain ⟨hcap, hn6, hn64, hw⟩ := hL.cap
  have HLst := hid hL
  have HL := hid hl
  have C0 := hid (wnum_any h n hn64 (by have := HL.out; simp only [List.length_append] at this ⊢; omega))
  clear h e hl hL hn64
  go_enter Tryz.func194, Tryz.ntmps194
  go_wp2_with (first | (go_at_call 138; refine C0.out.mono ?_; rintro en w1 ⟨rfl, h1⟩; have H1 := hid h1; clear h1))
  clear hw C0
  go_loopw [15] (fun i wr => ∃ k, k ≤ n ∧ i = .int .i64 (k : Int) ∧ St 138 W0 KK a wr ((l ++ numL n) ++ takeB M k)) (fun i _ => n - (intOf i).toNat)
  case atStart => exact ⟨0, by omega, rfl, by rw [takeB_zero, List.append_nil]; exact H1.out⟩
  case round =>
    obtain ⟨k, hk, rfl, hst⟩ := hrel
    have HS := hid hst
    clear hst
    by_cases hlt : k < n
    · obtain ⟨⟨mc, mb⟩, bk, off, hm, rfl, hcell, htk, hle⟩ := HLst.out.get (by decide) hlt
      simp only at hm hcell htk hle
      obtain ⟨v0, v1, v2, b0, b1, b2, rfl, rfl, e0, e1, e2⟩ := Column_cells hm
      obtain ⟨y0, rfl⟩ := form_name e0
      obtain ⟨y1, rfl⟩ := form_int e1
      obtain ⟨y2, rfl⟩ := form_bool e2
      have d0 : wr.cell? ⟨bk, off + k * 3, none⟩ = some (.string y0) := hcell _ HS.out.below 0 _ rfl
      have d1 : wr.cell? ⟨bk, off + k * 3 + 1, none⟩ = some (.int .i64 y1) := hcell _ HS.out.below 1 _ rfl
      have d2 : wr.cell? ⟨bk, off + k * 3 + 2, none⟩ = some (.bool y2) := hcell _ HS.out.below 2 _ rfl
      have HB := hid (HS.out.box #[(.string y0), (.int .i64 y1), (.bool y2)] 199)
      have HX := hid hle
      have C := hid (wColumn_any HB.out e0 e1 e2 (by have := HL.out; have := HX.out; simp only [List.length_append] at *; omega))
      have HT := hid htk
      clear htk hle hcell hm e0 e1 e2
      have hki : (k : Int) < (n : Int) := by omega
      go_wp2_with (first | (go_at_call 195; refine C.out.mono ?_; rintro en w2 ⟨rfl, h2⟩; have H2 := hid h2.drop; clear h2))
      go_roundw
      case rel => exact ⟨k + 1, by omega, by go_num, by rw [HT.out, ← List.append_assoc]; exact H2.out⟩
      case measure => simp [intOf]; omega
    · obtain rfl : k = n := by omega
      have hki : ¬ (k : Int) < (k : Int) := by omega
      go_wp2_with fail
      go_end0
      exact ⟨rfl, by rw [← List.append_assoc]; exact HS.out⟩

set_option maxHeartbeats 4000000 in
theorem wlist_int {W0 w : World} {KK : List (Nat × Obj)} {a : Nat} {l : List UInt8} {v : Value} {b : List UInt8} (h : St 138 W0 KK a w l) (e : Enc W0 (.list .int) [v] b) (hl : l.length + b.length ≤ 1000000000000) :
    Calls Tryz.prog 196 #[.pointer (some ⟨a, 0, none⟩), v, (.func (.func 140) #[.pointer (some ⟨a, 0, none⟩)] #[])] w (Wrote 138 W0 KK a l b) := by
  obtain ⟨ao, n, c, M, rfl, hL, rfl⟩ := list_open e
  obtain ⟨hcap, hn6, hn64, hw⟩ := hL.cap
  have HLst := hid hL
  have HL := hid hl
  have C0 := hid (wnum_any h n hn64 (by have := HL.out; simp only [List.length_append] at this ⊢; omega))
  clear h e hl hL hn64
  go_enter Tryz.func196, Tryz.ntmps196
  go_wp2_with (first | (go_at_call 138; refine C0.out.mono ?_; rintro en w1 ⟨rfl, h1⟩; have H1 := hid h1; clear h1))
  clear hw C0
  go_loopw [15] (fun i wr => ∃ k, k ≤ n ∧ i = .int .i64 (k : Int) ∧ St 138 W0 KK a wr ((l ++ numL n) ++ takeB M k)) (fun i _ => n - (intOf i).toNat)
  case atStart => exact ⟨0, by omega, rfl, by rw [takeB_zero, List.append_nil]; exact H1.out⟩
  case round =>
    obtain ⟨k, hk, rfl, hst⟩ := hrel
    have HS := hid hst
    clear hst
    by_cases hlt : k < n
    · obtain ⟨⟨mc, mb⟩, bk, off, hm, rfl, hcell, htk, hle⟩ := HLst.out.get (by decide) hlt
      simp only at hm hcell htk hle
      obtain ⟨v0, rfl⟩ := one_of hm rfl
      have d0 : wr.cell? ⟨bk, off + k, none⟩ = some v0 := by have := hcell _ HS.out.below 0 v0 rfl; rw [show Sh.wid .int = 1 from rfl, Nat.mul_one] at this; exact this
      have HX := hid hle
      have C := hid (wwholeE HS.out hm (by have := HL.out; have := HX.out; simp only [List.length_append] at *; omega))
      have HT := hid htk
      clear htk hle hcell hm
      have hki : (k : Int) < (n : Int) := by omega
      go_wp2_with (first | (go_at_call 140; refine C.out.mono ?_; rintro en w2 ⟨rfl, h2⟩; have H2 := hid h2; clear h2))
      go_roundw
      case rel => exact ⟨k + 1, by omega, by go_num, by rw [HT.out, ← List.append_assoc]; exact H2.out⟩
      case measure => simp [intOf]; omega
    · obtain rfl : k = n := by omega
      have hki : ¬ (k : Int) < (k : Int) := by omega
      go_wp2_with fail
      go_end0
      exact ⟨rfl, by rw [← List.append_assoc]; exact HS.out⟩

set_option maxHeartbeats 8000000 in
theorem wTable_any {W0 w : World} {KK : List (Nat × Obj)} {a : Nat} {l : List UInt8} {v0 v1 v2 v3 : Value} {b0 b1 b2 b3 : List UInt8} (h : St 138 W0 KK a w l) (e0 : Enc W0 .int [v0] b0) (e1 : Enc W0 .name [v1] b1) (e2 : Enc W0 (.list sColumn) [v2] b2) (e3 : Enc W0 (.list .int) [v3] b3) (hl : l.length + (b0 ++ (b1 ++ (b2 ++ b3))).length ≤ 1000000000000) :
    Calls Tryz.prog 149 #[.pointer (some ⟨a, 0, none⟩), .agg #[v0, v1, v2, v3]] w (Wrote 138 W0 KK a l (b0 ++ (b1 ++ (b2 ++ b3)))) := by
  have H0 := hid (h.box #[v0, v1, v2, v3] 39)
  have HL0 := hid hl
  have E0 := hid e0
  have E1 := hid e1
  have E2 := hid e2
  have E3 := hid e3
  clear h hl e0 e1 e2 e3
  go_enter Tryz.func149, Tryz.ntmps149
  go_upto_region 1 with fail
  generalize w.alloc (.cells #[v0, v1, v2, v3] 39) = w0 at *
  generalize w.heap.size = B at *
  have x0 := box_cell H0.out 0 v0 rfl
  have HN0 := hid (len_now HL0.out)
  have HL1 := hid (len_step HL0.out)
  go_upto_region 2 with (first | (go_at_call 140; refine (wwholeE H0.out E0.out HN0.out).mono ?_; rintro en w1 ⟨rfl, h1⟩; have H1 := hid h1; clear h1))
  clear x0
  have x1 := box_cell H1.out 1 v1 rfl
  have HN1 := hid (len_now HL1.out)
  have HL2 := hid (len_step HL1.out)
  go_upto_region 3 with (first | (go_at_call 151; refine (wnameE H1.out E1.out HN1.out).mono ?_; rintro en w2 ⟨rfl, h2⟩; have H2 := hid h2; clear h2))
  clear x1
  have x2 := box_cell H2.out 2 v2 rfl
  have HN2 := hid (len_now HL2.out)
  have HL3 := hid (len_step HL2.out)
  go_upto_region 4 with (first | (go_at_call 194; refine (wlist_Column H2.out E2.out HN2.out).mono ?_; rintro en w3 ⟨rfl, h3⟩; have H3 := hid h3; clear h3))
  clear x2
  have x3 := box_cell H3.out 3 v3 rfl
  go_wp2_with (first | (go_at_call 196; refine (wlist_int H3.out E3.out HL3.out).mono ?_; rintro en w4 ⟨rfl, h4⟩; have H4 := hid h4; clear h4))
  clear x3
  go_end0
  exact ⟨rfl, by simpa only [List.append_assoc] using H4.out.drop⟩

end Go.Proofs.YtdfccaehoodjhaaGreat

