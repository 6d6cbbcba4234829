/- The law WireBack holds of the landed program, for all arguments of at most the size that the second form of the statement bounds: what is written is read, of each kind, and a beginning of it is too short. -/
import Derived.Great.BuildSlice
import Derived.WalkKit
import Derived.OpenShut
import Derived.Test.YtdfccaehoodjhaaGreatRows
import Derived.WalkSpells
import Derived.WalkLawsBesides
import Derived.Laws.AppendOwnNone
import Derived.ProofKit
import Derived.ShutString
import Derived.ChangeOld
import Derived.Below
import Derived.SizedLaws
import Derived.Deep.RegionHeld3
import Derived.Deep.Slices
import Derived.Deep.AppendLies
import Derived.Deep.Strs
import Derived.Lib.ConvBytes
import Derived.Laws.AppendOwn
import Derived.Deep.CutRange
import Derived.Lib.SlBytesConst
import Derived.Deep.MidRow
import Derived.Great.Walk
import Derived.JoinedCond
import Derived.Test.YtdfccaehoodjhaaGreatWP1
import Derived.Test.YtdfccaehoodjhaaGreatWP2
import Derived.Test.YtdfccaehoodjhaaGreatWP3
import Derived.Test.YtdfccaehoodjhaaGreatWP4
import Derived.Test.YtdfccaehoodjhaaGreatWP5
import Derived.Test.YtdfccaehoodjhaaGreatWP6
import Derived.Test.YtdfccaehoodjhaaGreatWP7
import Derived.Test.YtdfccaehoodjhaaGreatWP8
import Derived.Test.YtdfccaehoodjhaaGreatWP9
import Derived.Test.YtdfccaehoodjhaaGreatWP10
import Derived.Test.YtdfccaehoodjhaaGreatWP11
import Derived.Test.YtdfccaehoodjhaaGreatWP12
import Derived.Test.YtdfccaehoodjhaaGreatWP13
import Derived.Test.YtdfccaehoodjhaaGreatWP14
import Derived.Test.YtdfccaehoodjhaaGreatWP15
import Derived.Test.YtdfccaehoodjhaaGreatWP16
import Derived.Test.YtdfccaehoodjhaaGreatWP17
import Derived.Test.YtdfccaehoodjhaaGreatWP18
import Derived.Test.YtdfccaehoodjhaaGreatWP19
import Derived.Test.YtdfccaehoodjhaaGreatWP20
set_option linter.unusedVariables false
set_option linter.unusedSimpArgs false
set_option linter.unusedVariables false
set_option linter.unusedSimpArgs false
set_option maxRecDepth 100000
namespace Go.Proofs.YtdfccaehoodjhaaGreat
open Go.RowKit Go.Deep Go.ChangeShapes Go.WideShapes Go.ChangeAt
namespace wireBackUpto

set_option maxHeartbeats 16000000 in
theorem walk {H : Type} {enc : TypeId × Value → H} (v0 v1 v2 v3 : Value) (a4 : Int) (W : World) {base : Nat} {d0 d1 d2 d3 d4 : DataW H} {p0 p1 p2 p3 : List MemPlace} (hw0 : Value.okWide Tryz.prog W .any base 27 v0) (h0 : DataW.Trod enc Tryz.prog W 0 (fun _ => true) true 27 v0 d0 p0) (hw1 : Value.okWide Tryz.prog W .any base 43 v1) (h1 : DataW.Trod enc Tryz.prog W 0 (fun _ => true) true 43 v1 d1 p1) (hw2 : Value.okWide Tryz.prog W .any base 55 v2) (h2 : DataW.Trod enc Tryz.prog W 0 (fun _ => true) true 55 v2 d2 p2) (hw3 : Value.okWide Tryz.prog W .any base 62 v3) (h3 : DataW.Trod enc Tryz.prog W 0 (fun _ => true) true 62 v3 d3 p3) (hw4 : (Lit.int .i64 a4).wf = true) (hk : Rows.uptoSmall H [d0, d1, d2, d3, d4] = true) :
    Calls Tryz.prog 4 #[v0, v1, v2, v3, .int .i64 a4] W (fun e w' => e = .returned (.bool true) ∧ Below W.heap.size W w') := by
  obtain ⟨cs0, B0, rfl, he0, hl0⟩ := struct_in 20 sCall 27 Tryz.underlying27 (by kernel_rfl) hw0 h0 (bulk_at hk (by simp))
  obtain ⟨U0, hU0⟩ : ∃ U, U = cs0.toArray := ⟨_, rfl⟩
  have hs0 : U0.size = 3 := by rw [hU0]; exact List.size_toArray.trans he0.wide.1
  have HEN0 := hid he0
  obtain ⟨cs1, B1, rfl, he1, hl1⟩ := struct_in 20 sCommand 43 Tryz.underlying43 (by kernel_rfl) hw1 h1 (bulk_at hk (by simp))
  obtain ⟨U1, hU1⟩ : ∃ U, U = cs1.toArray := ⟨_, rfl⟩
  have hs1 : U1.size = 25 := by rw [hU1]; exact List.size_toArray.trans he1.wide.1
  have HEN1 := hid he1
  obtain ⟨cs2, B2, rfl, he2, hl2⟩ := struct_in 20 sReply 55 Tryz.underlying55 (by kernel_rfl) hw2 h2 (bulk_at hk (by simp))
  obtain ⟨U2, hU2⟩ : ∃ U, U = cs2.toArray := ⟨_, rfl⟩
  have hs2 : U2.size = 15 := by rw [hU2]; exact List.size_toArray.trans he2.wide.1
  have HEN2 := hid he2
  obtain ⟨cs3, B3, rfl, he3, hl3⟩ := struct_in 20 sAsk 62 Tryz.underlying62 (by kernel_rfl) hw3 h3 (bulk_at hk (by simp))
  obtain ⟨U3, hU3⟩ : ∃ U, U = cs3.toArray := ⟨_, rfl⟩
  have hs3 : U3.size = 16 := by rw [hU3]; exact List.size_toArray.trans he3.wide.1
  have HEN3 := hid he3
  obtain ⟨v2_0, v2_1, v2_2, v2_3, v2_4, v2_5, v2_6, v2_7, v2_8, v2_9, v2_10, v2_11, v2_12, v2_13, v2_14, b2_0, b2_1, b2_2, b2_3, b2_4, b2_5, b2_6, b2_7, b2_8, b2_9, b2_10, b2_11, b2_12, b2_13, b2_14, hcs2, -, e2_0, e2_1, e2_2, e2_3, e2_4, e2_5, e2_6, e2_7, e2_8, e2_9, e2_10, e2_11, e2_12, e2_13, e2_14⟩ := Reply_cells he2
  obtain ⟨a2_4, n2_4, c2_4, hf2_4⟩ := form_list e2_4
  rw [hf2_4] at e2_4
  obtain ⟨hc2_4, hn2_4⟩ := list_len e2_4
  have hx2_4 : U2[4]? = some (.slice a2_4 n2_4 c2_4) := by rw [hU2, hcs2, hf2_4]; rfl
  obtain ⟨a2_5, n2_5, c2_5, hf2_5⟩ := form_list e2_5
  rw [hf2_5] at e2_5
  obtain ⟨hc2_5, hn2_5⟩ := list_len e2_5
  have hx2_5 : U2[5]? = some (.slice a2_5 n2_5 c2_5) := by rw [hU2, hcs2, hf2_5]; rfl
  obtain ⟨a2_8, n2_8, c2_8, hf2_8⟩ := form_list e2_8
  rw [hf2_8] at e2_8
  obtain ⟨hc2_8, hn2_8⟩ := list_len e2_8
  have hx2_8 : U2[8]? = some (.slice a2_8 n2_8 c2_8) := by rw [hU2, hcs2, hf2_8]; rfl
  obtain ⟨a2_9, n2_9, c2_9, hf2_9⟩ := form_list e2_9
  rw [hf2_9] at e2_9
  obtain ⟨hc2_9, hn2_9⟩ := list_len e2_9
  have hx2_9 : U2[9]? = some (.slice a2_9 n2_9 c2_9) := by rw [hU2, hcs2, hf2_9]; rfl
  obtain ⟨a2_12, n2_12, c2_12, hf2_12⟩ := form_list e2_12
  rw [hf2_12] at e2_12
  obtain ⟨hc2_12, hn2_12⟩ := list_len e2_12
  have hx2_12 : U2[12]? = some (.slice a2_12 n2_12 c2_12) := by rw [hU2, hcs2, hf2_12]; rfl
  clear e2_0 e2_1 e2_2 e2_3 e2_4 e2_5 e2_6 e2_7 e2_8 e2_9 e2_10 e2_11 e2_12 e2_13 e2_14 hcs2
  clear hf2_4 hf2_5 hf2_8 hf2_9 hf2_12
  obtain ⟨v3_0, v3_1, v3_2, v3_3, v3_4, v3_5, v3_6, v3_7, v3_8, v3_9, v3_10, v3_11, v3_12, v3_13, v3_14, v3_15, b3_0, b3_1, b3_2, b3_3, b3_4, b3_5, b3_6, b3_7, b3_8, b3_9, b3_10, b3_11, b3_12, b3_13, b3_14, b3_15, hcs3, -, e3_0, e3_1, e3_2, e3_3, e3_4, e3_5, e3_6, e3_7, e3_8, e3_9, e3_10, e3_11, e3_12, e3_13, e3_14, e3_15⟩ := Ask_cells he3
  obtain ⟨a3_1, n3_1, c3_1, hf3_1⟩ := form_list e3_1
  rw [hf3_1] at e3_1
  obtain ⟨hc3_1, hn3_1⟩ := list_len e3_1
  have hx3_1 : U3[1]? = some (.slice a3_1 n3_1 c3_1) := by rw [hU3, hcs3, hf3_1]; rfl
  clear e3_0 e3_1 e3_2 e3_3 e3_4 e3_5 e3_6 e3_7 e3_8 e3_9 e3_10 e3_11 e3_12 e3_13 e3_14 e3_15 hcs3
  clear hf3_1
  obtain ⟨qc, hqc⟩ : ∃ qc, ∀ w, Calls Tryz.prog 24 #[.agg U1] w (fun e w' => e = .returned (.bool qc) ∧ Below w.heap.size w w') := by
    rw [hU1]; exact cmdq_any he1
  have CQ := hid hqc
  clear hqc
  have CW0 : Hid (∀ V, Below W.heap.size W V → Calls Tryz.prog 25 #[.agg U0] V (Gives 5 V B0)) := hid fun V hV => by
    rw [hU0]; exact topCall_any (Enc.old hV _ he0) (by omega)
  have HLB0 := hid hl0
  have HUE0 := hid hU0
  have HSZ0 := hid hs0
  have hrow0 : U0.all (·.oneCell') = true := by rw [hU0, List.all_toArray, List.all_eq_true]; exact he0.wide.2
  clear hrow0
  have CW1 : Hid (∀ V, Below W.heap.size W V → Calls Tryz.prog 26 #[.agg U1] V (Gives 5 V B1)) := hid fun V hV => by
    rw [hU1]; exact topCommand_any (Enc.old hV _ he1) (by omega)
  have HLB1 := hid hl1
  have HUE1 := hid hU1
  have HSZ1 := hid hs1
  have hrow1 : U1.all (·.oneCell') = true := by rw [hU1, List.all_toArray, List.all_eq_true]; exact he1.wide.2
  clear hrow1
  have CW2 : Hid (∀ V, Below W.heap.size W V → Calls Tryz.prog 27 #[.agg U2] V (Gives 5 V B2)) := hid fun V hV => by
    rw [hU2]; exact topReply_any (Enc.old hV _ he2) (by omega)
  have HLB2 := hid hl2
  have HUE2 := hid hU2
  have HSZ2 := hid hs2
  have hrow2 : U2.all (·.oneCell') = true := by rw [hU2, List.all_toArray, List.all_eq_true]; exact he2.wide.2
  clear hrow2
  have CW3 : Hid (∀ V, Below W.heap.size W V → Calls Tryz.prog 28 #[.agg U3] V (Gives 5 V B3)) := hid fun V hV => by
    rw [hU3]; exact topAsk_any (Enc.old hV _ he3) (by omega)
  have HLB3 := hid hl3
  have HUE3 := hid hU3
  have HSZ3 := hid hs3
  have hrow3 : U3.all (·.oneCell') = true := by rw [hU3, List.all_toArray, List.all_eq_true]; exact he3.wide.2
  clear hrow3
  rw [← hU0, ← hU1, ← hU2, ← hU3]
  clear hk hw4 hw0 h0 he0 hl0 hU0 hw1 h1 he1 hl1 hU1 hw2 h2 he2 hl2 hU2 hw3 h3 he3 hl3 hU3
  obtain ⟨z0, z1, z2, z3, hb0⟩ := box_at W (.cells U0 27) (.cells U1 43) (.cells U2 55) (.cells U3 62)
  go_enter Tryz.func4, Tryz.ntmps4
  go_upto_region 1 with fail
  generalize (((W.alloc (.cells U0 27)).alloc (.cells U1 43)).alloc (.cells U2 55)).alloc (.cells U3 62) = w1 at *
  have HB0 := hid hb0
  clear hb0
  have HZ0 : Hid (∀ V, Below w1.heap.size w1 V → V.heap[W.heap.size]? = some (.cells U0 27 (0, 0))) := hid fun V hV => (hV.block _ (lt_of_block z0)).trans z0
  have HI0 : Hid ((Tryz.prog.info? 27).map (·.size) = some U0.size) := hid (by rw [hs0]; exact info_Call)
  have LD0 : Hid (∀ V, Below w1.heap.size w1 V → (Instr.loadAt 27 (.pointer (some ⟨W.heap.size, 0, none⟩))).run Tryz.prog V = .ok (.agg U0) V) := hid fun V hV => row_load (HZ0.out V hV) Tryz.underlying27 rfl HI0.out
  have HZ1 : Hid (∀ V, Below w1.heap.size w1 V → V.heap[W.heap.size + 1]? = some (.cells U1 43 (0, 0))) := hid fun V hV => (hV.block _ (lt_of_block z1)).trans z1
  have HI1 : Hid ((Tryz.prog.info? 43).map (·.size) = some U1.size) := hid (by rw [hs1]; exact info_Command)
  have LD1 : Hid (∀ V, Below w1.heap.size w1 V → (Instr.loadAt 43 (.pointer (some ⟨W.heap.size + 1, 0, none⟩))).run Tryz.prog V = .ok (.agg U1) V) := hid fun V hV => row_load (HZ1.out V hV) Tryz.underlying43 rfl HI1.out
  have HZ2 : Hid (∀ V, Below w1.heap.size w1 V → V.heap[W.heap.size + 2]? = some (.cells U2 55 (0, 0))) := hid fun V hV => (hV.block _ (lt_of_block z2)).trans z2
  have HI2 : Hid ((Tryz.prog.info? 55).map (·.size) = some U2.size) := hid (by rw [hs2]; exact info_Reply)
  have LD2 : Hid (∀ V, Below w1.heap.size w1 V → (Instr.loadAt 55 (.pointer (some ⟨W.heap.size + 2, 0, none⟩))).run Tryz.prog V = .ok (.agg U2) V) := hid fun V hV => row_load (HZ2.out V hV) Tryz.underlying55 rfl HI2.out
  have HY2_4 : Hid (∀ V, Below w1.heap.size w1 V → V.cell? ⟨W.heap.size + 2, 4, none⟩ = some (.slice a2_4 n2_4 c2_4)) := hid fun V hV => by have := HZ2.out V hV; simp only [World.cell?, this]; exact hx2_4
  have HY2_5 : Hid (∀ V, Below w1.heap.size w1 V → V.cell? ⟨W.heap.size + 2, 5, none⟩ = some (.slice a2_5 n2_5 c2_5)) := hid fun V hV => by have := HZ2.out V hV; simp only [World.cell?, this]; exact hx2_5
  have HY2_8 : Hid (∀ V, Below w1.heap.size w1 V → V.cell? ⟨W.heap.size + 2, 8, none⟩ = some (.slice a2_8 n2_8 c2_8)) := hid fun V hV => by have := HZ2.out V hV; simp only [World.cell?, this]; exact hx2_8
  have HY2_9 : Hid (∀ V, Below w1.heap.size w1 V → V.cell? ⟨W.heap.size + 2, 9, none⟩ = some (.slice a2_9 n2_9 c2_9)) := hid fun V hV => by have := HZ2.out V hV; simp only [World.cell?, this]; exact hx2_9
  have HY2_12 : Hid (∀ V, Below w1.heap.size w1 V → V.cell? ⟨W.heap.size + 2, 12, none⟩ = some (.slice a2_12 n2_12 c2_12)) := hid fun V hV => by have := HZ2.out V hV; simp only [World.cell?, this]; exact hx2_12
  have HZ3 : Hid (∀ V, Below w1.heap.size w1 V → V.heap[W.heap.size + 3]? = some (.cells U3 62 (0, 0))) := hid fun V hV => (hV.block _ (lt_of_block z3)).trans z3
  have HI3 : Hid ((Tryz.prog.info? 62).map (·.size) = some U3.size) := hid (by rw [hs3]; exact info_Ask)
  have LD3 : Hid (∀ V, Below w1.heap.size w1 V → (Instr.loadAt 62 (.pointer (some ⟨W.heap.size + 3, 0, none⟩))).run Tryz.prog V = .ok (.agg U3) V) := hid fun V hV => row_load (HZ3.out V hV) Tryz.underlying62 rfl HI3.out
  have HY3_1 : Hid (∀ V, Below w1.heap.size w1 V → V.cell? ⟨W.heap.size + 3, 1, none⟩ = some (.slice a3_1 n3_1 c3_1)) := hid fun V hV => by have := HZ3.out V hV; simp only [World.cell?, this]; exact hx3_1
  clear z0 z1 z2 z3 hs0 hs1 hs2 hs3 hx2_4 hx2_5 hx2_8 hx2_9 hx2_12 hx3_1
  have HB1 : Hid (∀ V, Below w1.heap.size w1 V → Below W.heap.size W V) := hid fun V hV => HB0.out.trans (hV.mono HB0.out.size)
  apply wp_region_lit
  refine Great.wpList_readTo rfl (some 27) rfl (.agg U1) (exec_load rfl (LD1.out _ (Below.refl _ _))) ?_
  simp only [Act.put, List.getElem_toArray, List.getElem_cons_succ, List.getElem_cons_zero, List.setIfInBounds_toArray, List.set_cons_succ, List.set_cons_zero]
  refine wpList_callAny rfl (some 28) rfl 24 #[.agg U1] (by as_aux_lemma => kernel_rfl) (CQ.out _) ?_
  rintro en wq ⟨rfl, hbq⟩
  refine ⟨_, rfl, ?_⟩
  simp only [Act.put, List.getElem_toArray, List.getElem_cons_succ, List.getElem_cons_zero, List.setIfInBounds_toArray, List.set_cons_succ, List.set_cons_zero]
  have HX := hid hbq
  clear hbq
  have y2_4 := HY2_4.out _ HX.out
  have y2_5 := HY2_5.out _ HX.out
  have y2_8 := HY2_8.out _ HX.out
  have y2_9 := HY2_9.out _ HX.out
  have y2_12 := HY2_12.out _ HX.out
  have y3_1 := HY3_1.out _ HX.out
  cases qc with
  | false =>
    go_wp2_with (first | (go_at_call 5; refine (xawake_any _).mono ?_; rintro en w2 ⟨rfl, hb2⟩; have HB2 := hid (HX.out.trans (hb2.mono HX.out.size)); clear hb2))
    go_ret
    exact ⟨rfl, HB1.out _ HB2.out⟩
  | true =>
    by_cases q0 : (300 : Int) < (n2_4 : Int)
    · go_wp2_with (first | (go_at_call 5; refine (xawake_any _).mono ?_; rintro en w2 ⟨rfl, hb2⟩; have HB2 := hid (HX.out.trans (hb2.mono HX.out.size)); clear hb2))
      go_ret
      exact ⟨rfl, HB1.out _ HB2.out⟩
    · skip
      have hs1 : IntKind.i64.wrap ((n2_8 : Int) + (n2_9 : Int)) = (n2_8 : Int) + (n2_9 : Int) := by rw [IntKind.wrap_i64]; omega
      by_cases q1 : (60 : Int) < (n2_8 : Int) + (n2_9 : Int)
      · go_wp2_with (first | (go_at_call 5; refine (xawake_any _).mono ?_; rintro en w2 ⟨rfl, hb2⟩; have HB2 := hid (HX.out.trans (hb2.mono HX.out.size)); clear hb2))
        go_ret
        exact ⟨rfl, HB1.out _ HB2.out⟩
      · skip
        by_cases q2 : (300 : Int) < (n2_5 : Int)
        · go_wp2_with (first | (go_at_call 5; refine (xawake_any _).mono ?_; rintro en w2 ⟨rfl, hb2⟩; have HB2 := hid (HX.out.trans (hb2.mono HX.out.size)); clear hb2))
          go_ret
          exact ⟨rfl, HB1.out _ HB2.out⟩
        · skip
          by_cases q3 : (60 : Int) < (n3_1 : Int)
          · go_wp2_with (first | (go_at_call 5; refine (xawake_any _).mono ?_; rintro en w2 ⟨rfl, hb2⟩; have HB2 := hid (HX.out.trans (hb2.mono HX.out.size)); clear hb2))
            go_ret
            exact ⟨rfl, HB1.out _ HB2.out⟩
          · skip
            by_cases q4 : (60 : Int) < (n2_12 : Int)
            · go_wp2_with (first | (go_at_call 5; refine (xawake_any _).mono ?_; rintro en w2 ⟨rfl, hb2⟩; have HB2 := hid (HX.out.trans (hb2.mono HX.out.size)); clear hb2))
              go_ret
              exact ⟨rfl, HB1.out _ HB2.out⟩
            · skip
              go_upto_region 3 with fail
              clear y2_4 y2_5 y2_8 y2_9 y2_12 y3_1
              clear hc2_4 hn2_4 hc2_5 hn2_5 hc2_8 hn2_8 hc2_9 hn2_9 hc2_12 hn2_12 hc3_1 hn3_1
              obtain ⟨S9, hS9⟩ : ∃ S9 : World → Prop, S9 = fun V => Below w1.heap.size w1 V := ⟨_, rfl⟩
              have HS : Hid (∀ V, Below w1.heap.size w1 V → S9 V) := hid fun V h => by rw [hS9]; exact h
              have HSI : Hid (∀ V, S9 V → Below w1.heap.size w1 V) := hid fun V h => by rw [hS9] at h; exact h
              have HWd : Hid (Below w1.heap.size w1 wq.drew) := hid (HX.out.trans ((show Below wq.heap.size wq wq.drew from ⟨rfl, rfl, rfl, Nat.le_refl _, fun _ _ => rfl⟩).mono HX.out.size))
              clear hS9
              refine wp_region_noPanic ?_
              refine wp_region_held_drew (S := S9) (by kernel_rfl) (HS.out _ HWd.out) (fun hHeld => ?_)
              generalize wq.drew = Wd at *
              refine wpAnyH_take (i := 0) (v := (.agg U0)) rfl (by kernel_rfl) (by kernel_rfl) (by kernel_rfl) (fun _ _ _ h => (show False from h).elim) ?xyWBl0 ?xhWBl0 ?xrWBl0
              case xhWBl0 => exact hHeld
              case xyWBl0 => exact Or.inl ⟨by rfl, fun W9 hW => by clear hHeld; simp only [List.getElem_toArray, List.getElem_cons_succ, List.getElem_cons_zero]; exact exec_load (t := 27) (x := .tmp 5) rfl (LD0.out _ (HSI.out _ hW))⟩
              simp only [Act.put, List.getElem_toArray, List.getElem_cons_succ, List.getElem_cons_zero, List.setIfInBounds_toArray, List.set_cons_succ, List.set_cons_zero]
              refine wpAnyH_take (i := 2) (v := (.agg U1)) rfl (by kernel_rfl) (by kernel_rfl) (by kernel_rfl) (fun _ _ _ h => (show False from h).elim) ?xyWBl1 ?xhWBl1 ?xrWBl1
              case xhWBl1 => exact hHeld
              case xyWBl1 => exact Or.inl ⟨by rfl, fun W9 hW => by clear hHeld; simp only [List.getElem_toArray, List.getElem_cons_succ, List.getElem_cons_zero]; exact exec_load (t := 43) (x := .tmp 6) rfl (LD1.out _ (HSI.out _ hW))⟩
              simp only [Act.put, List.getElem_toArray, List.getElem_cons_succ, List.getElem_cons_zero, List.setIfInBounds_toArray, List.set_cons_succ, List.set_cons_zero]
              refine wpAnyH_take (i := 4) (v := (.agg U2)) rfl (by kernel_rfl) (by kernel_rfl) (by kernel_rfl) (fun _ _ _ h => (show False from h).elim) ?xyWBl2 ?xhWBl2 ?xrWBl2
              case xhWBl2 => exact hHeld
              case xyWBl2 => exact Or.inl ⟨by rfl, fun W9 hW => by clear hHeld; simp only [List.getElem_toArray, List.getElem_cons_succ, List.getElem_cons_zero]; exact exec_load (t := 55) (x := .tmp 7) rfl (LD2.out _ (HSI.out _ hW))⟩
              simp only [Act.put, List.getElem_toArray, List.getElem_cons_succ, List.getElem_cons_zero, List.setIfInBounds_toArray, List.set_cons_succ, List.set_cons_zero]
              refine wpAnyH_take (i := 6) (v := (.agg U3)) rfl (by kernel_rfl) (by kernel_rfl) (by kernel_rfl) (fun _ _ _ h => (show False from h).elim) ?xyWBl3 ?xhWBl3 ?xrWBl3
              case xhWBl3 => exact hHeld
              case xyWBl3 => exact Or.inl ⟨by rfl, fun W9 hW => by clear hHeld; simp only [List.getElem_toArray, List.getElem_cons_succ, List.getElem_cons_zero]; exact exec_load (t := 62) (x := .tmp 8) rfl (LD3.out _ (HSI.out _ hW))⟩
              simp only [Act.put, List.getElem_toArray, List.getElem_cons_succ, List.getElem_cons_zero, List.setIfInBounds_toArray, List.set_cons_succ, List.set_cons_zero]
              have CC0 := hid (CW0.out _ (HB1.out _ HWd.out))
              refine wpAnyH_ready (rs := [1]) (by kernel_rfl) (by simp) ?_
              refine AllReadyH.cons rfl (fun K hK => ?_) AllReadyH.nil
              go_simp
              go_wp2_with (first | (go_at_call 25; refine CC0.out.mono ?_; rintro en wP0 ⟨xv0, rfl, ho0, hb0⟩; obtain ⟨xo0, xc0, rfl, hrx0⟩ := gives_rd ho0; have HR0_0 := hid hrx0; have HP0 := hid (HWd.out.trans (hb0.mono HWd.out.size));  clear ho0 hb0 hrx0))
              refine hK.out _ _ (HS.out _ HP0.out) (fun hHeld => ?_)
              clear hK K
              have CC1 := hid (CW1.out _ (HB1.out _ HP0.out))
              refine wpAnyH_ready (rs := [3]) (by kernel_rfl) (by simp) ?_
              refine AllReadyH.cons rfl (fun K hK => ?_) AllReadyH.nil
              go_simp
              go_wp2_with (first | (go_at_call 26; refine CC1.out.mono ?_; rintro en wP1 ⟨xv1, rfl, ho1, hb1⟩; obtain ⟨xo1, xc1, rfl, hrx1⟩ := gives_rd ho1; have HR1_1 := hid hrx1; have HP1 := hid (HP0.out.trans (hb1.mono HP0.out.size)); have HR0_1 := hid (HR0_0.out.old hb1); clear ho1 hb1 hrx1))
              refine hK.out _ _ (HS.out _ HP1.out) (fun hHeld => ?_)
              clear hK K
              have CC2 := hid (CW2.out _ (HB1.out _ HP1.out))
              refine wpAnyH_ready (rs := [5]) (by kernel_rfl) (by simp) ?_
              refine AllReadyH.cons rfl (fun K hK => ?_) AllReadyH.nil
              go_simp
              go_wp2_with (first | (go_at_call 27; refine CC2.out.mono ?_; rintro en wP2 ⟨xv2, rfl, ho2, hb2⟩; obtain ⟨xo2, xc2, rfl, hrx2⟩ := gives_rd ho2; have HR2_2 := hid hrx2; have HP2 := hid (HP1.out.trans (hb2.mono HP1.out.size)); have HR0_2 := hid (HR0_1.out.old hb2); have HR1_2 := hid (HR1_1.out.old hb2); clear ho2 hb2 hrx2))
              refine hK.out _ _ (HS.out _ HP2.out) (fun hHeld => ?_)
              clear hK K
              have CC3 := hid (CW3.out _ (HB1.out _ HP2.out))
              refine wpAnyH_ready (rs := [7]) (by kernel_rfl) (by simp) ?_
              refine AllReadyH.cons rfl (fun K hK => ?_) AllReadyH.nil
              go_simp
              go_wp2_with (first | (go_at_call 28; refine CC3.out.mono ?_; rintro en wP3 ⟨xv3, rfl, ho3, hb3⟩; obtain ⟨xo3, xc3, rfl, hrx3⟩ := gives_rd ho3; have HR3_3 := hid hrx3; have HP3 := hid (HP2.out.trans (hb3.mono HP2.out.size)); have HR0_3 := hid (HR0_2.out.old hb3); have HR1_3 := hid (HR1_2.out.old hb3); have HR2_3 := hid (HR2_2.out.old hb3); clear ho3 hb3 hrx3))
              refine hK.out _ _ (HS.out _ HP3.out) (fun hHeld => ?_)
              clear hK K
              refine wpAnyH_take (i := 8) (v := (.slice xo0 B0.length xc0)) rfl (by kernel_rfl) (by kernel_rfl) (by kernel_rfl) (fun _ _ _ h => (show False from h).elim) ?xyWB1 ?xhWB1 ?xrWB1
              case xhWB1 => exact hHeld
              case xyWB1 => exact Or.inl ⟨by rfl, fun W9 hW => by clear hHeld; simp only [List.getElem_toArray, List.getElem_cons_succ, List.getElem_cons_zero]; go_simp⟩
              simp only [Act.put, List.getElem_toArray, List.getElem_cons_succ, List.getElem_cons_zero, List.setIfInBounds_toArray, List.set_cons_succ, List.set_cons_zero]
              refine wpAnyH_take (i := 9) (v := (.slice xo1 B1.length xc1)) rfl (by kernel_rfl) (by kernel_rfl) (by kernel_rfl) (fun _ _ _ h => (show False from h).elim) ?xyWB2 ?xhWB2 ?xrWB2
              case xhWB2 => exact hHeld
              case xyWB2 => exact Or.inl ⟨by rfl, fun W9 hW => by clear hHeld; simp only [List.getElem_toArray, List.getElem_cons_succ, List.getElem_cons_zero]; go_simp⟩
              simp only [Act.put, List.getElem_toArray, List.getElem_cons_succ, List.getElem_cons_zero, List.setIfInBounds_toArray, List.set_cons_succ, List.set_cons_zero]
              refine wpAnyH_take (i := 10) (v := (.slice xo2 B2.length xc2)) rfl (by kernel_rfl) (by kernel_rfl) (by kernel_rfl) (fun _ _ _ h => (show False from h).elim) ?xyWB3 ?xhWB3 ?xrWB3
              case xhWB3 => exact hHeld
              case xyWB3 => exact Or.inl ⟨by rfl, fun W9 hW => by clear hHeld; simp only [List.getElem_toArray, List.getElem_cons_succ, List.getElem_cons_zero]; go_simp⟩
              simp only [Act.put, List.getElem_toArray, List.getElem_cons_succ, List.getElem_cons_zero, List.setIfInBounds_toArray, List.set_cons_succ, List.set_cons_zero]
              refine wpAnyH_take (i := 11) (v := (.slice xo3 B3.length xc3)) rfl (by kernel_rfl) (by kernel_rfl) (by kernel_rfl) (fun _ _ _ h => (show False from h).elim) ?xyWB4 ?xhWB4 ?xrWB4
              case xhWB4 => exact hHeld
              case xyWB4 => exact Or.inl ⟨by rfl, fun W9 hW => by clear hHeld; simp only [List.getElem_toArray, List.getElem_cons_succ, List.getElem_cons_zero]; go_simp⟩
              simp only [Act.put, List.getElem_toArray, List.getElem_cons_succ, List.getElem_cons_zero, List.setIfInBounds_toArray, List.set_cons_succ, List.set_cons_zero]
              refine wpAnyH_done (by kernel_rfl) ?_ _
              refine NoPanic.normal ?_
              have hxc0 : B0.length ≤ xc0 := by obtain ⟨_, _, e9, q9, _⟩ := HR0_3.out; simp only [Value.slice.injEq] at e9; omega
              have HL0 : Hid (B0.length ≤ 140737488355328) := hid (by have := HLB0.out; omega)
              have hxc1 : B1.length ≤ xc1 := by obtain ⟨_, _, e9, q9, _⟩ := HR1_3.out; simp only [Value.slice.injEq] at e9; omega
              have HL1 : Hid (B1.length ≤ 140737488355328) := hid (by have := HLB1.out; omega)
              have hxc2 : B2.length ≤ xc2 := by obtain ⟨_, _, e9, q9, _⟩ := HR2_3.out; simp only [Value.slice.injEq] at e9; omega
              have HL2 : Hid (B2.length ≤ 140737488355328) := hid (by have := HLB2.out; omega)
              have hxc3 : B3.length ≤ xc3 := by obtain ⟨_, _, e9, q9, _⟩ := HR3_3.out; simp only [Value.slice.injEq] at e9; omega
              have HL3 : Hid (B3.length ≤ 140737488355328) := hid (by have := HLB3.out; omega)
              clear HS HSI CC0 CC1 CC2 CC3
              go_upto_region 4 with fail
              have CTa := hid (tkCall_any (.slice xo0 B0.length xc0) (B0) wP3 HR0_3.out HL0.out)
              apply wp_region_lit
              refine Great.wpList_readTo rfl (some 77) rfl (.slice xo0 B0.length xc0) (by as_aux_lemma => kernel_rfl) ?_
              simp only [Act.put, List.getElem_toArray, List.getElem_cons_succ, List.getElem_cons_zero, List.setIfInBounds_toArray, List.set_cons_succ, List.set_cons_zero]
              refine wpList_callAny rfl (some 78) rfl 7 #[.slice xo0 B0.length xc0] (by as_aux_lemma => kernel_rfl) CTa.out ?_
              rintro en wTa hta
              obtain ⟨Va, eva, rfl, hea, hva, hoa, hoka, hbada, hba⟩ := TkR.any zCall_wide hta
              refine ⟨_, rfl, ?_⟩
              simp only [Act.put, List.getElem_toArray, List.getElem_cons_succ, List.getElem_cons_zero, List.setIfInBounds_toArray, List.set_cons_succ, List.set_cons_zero]
              clear hta
              refine Great.wpList_readTo rfl (some 76) rfl (.tuple #[.agg Va, .int .i64 eva]) (by as_aux_lemma => kernel_rfl) ?_
              simp only [Act.put, List.getElem_toArray, List.getElem_cons_succ, List.getElem_cons_zero, List.setIfInBounds_toArray, List.set_cons_succ, List.set_cons_zero]
              refine Great.wpList_readTo rfl (some 79) rfl (.agg Va) (by as_aux_lemma => kernel_rfl) ?_
              simp only [Act.put, List.getElem_toArray, List.getElem_cons_succ, List.getElem_cons_zero, List.setIfInBounds_toArray, List.set_cons_succ, List.set_cons_zero]
              refine Great.wpList_readTo rfl (some 80) rfl (.int .i64 eva) (by as_aux_lemma => kernel_rfl) ?_
              simp only [Act.put, List.getElem_toArray, List.getElem_cons_succ, List.getElem_cons_zero, List.setIfInBounds_toArray, List.set_cons_succ, List.set_cons_zero]
              refine Great.wpList_allocTo rfl (some 15) rfl _ _ (alloc_Call _ wTa _ _ _ _) ?_
              simp only [Act.put, List.getElem_toArray, List.getElem_cons_succ, List.getElem_cons_zero, List.setIfInBounds_toArray, List.set_cons_succ, List.set_cons_zero]
              have hxa := heap_alloc_new wTa (.cells zCall.toArray 27)
              have hbba : Below wTa.heap.size wTa (wTa.alloc (.cells zCall.toArray 27)) := (Below.refl _ _).alloc (Nat.le_refl _) _
              have HIVa : Hid ((Tryz.prog.info? 27).map (·.size) = some Va.size) := hid (by rw [hva]; exact info_Call)
              refine Go.wpList_store_rowTo rfl 27 _ _ rfl rfl wTa.heap.size Va rfl rfl 27 zCall.toArray hxa HIVa.out (zCall_row.1.trans (show 3 = Va.size from hva.symm)) hoa ?_
              have hbKa : Below wTa.heap.size wTa ((wTa.alloc (.cells zCall.toArray 27)).setRow wTa.heap.size Va) := ((Keep.of_below (X := fun j => j = wTa.heap.size) hbba).trans (setRow_keep _ _ _)).below (Nat.le_refl _) (fun k e => by have e9 : k = wTa.heap.size := e; omega)
              have hxxa := setRow_heap (wTa.alloc (.cells zCall.toArray 27)) wTa.heap.size _ Va _ _ hxa
              obtain ⟨Xa, hXa⟩ : ∃ X, X = wTa.heap.size := ⟨_, rfl⟩
              rw [← hXa] at hxxa hbKa ⊢
              generalize (wTa.alloc (.cells zCall.toArray 27)).setRow Xa Va = wEa at *
              rw [hXa] at hbKa
              have hbEa := hba.trans (hbKa.mono hba.size)
              have HQa := hid (HP3.out.trans (hbEa.mono HP3.out.size))
              have HXa := hid hxxa
              have HOKa : Hid (eva = 0 → Enc wEa sCall Va.toList (rdF sCall (B0, 0)).1) := hid fun e => (EncN.enc _ (hoka e)).old hbKa
              have HEVa := hid hea
              have HR0_a := hid (HR0_3.out.old hbEa)
              have HR1_a := hid (HR1_3.out.old hbEa)
              have HR2_a := hid (HR2_3.out.old hbEa)
              have HR3_a := hid (HR3_3.out.old hbEa)
              refine Great.wpList_readTo rfl (some 16) rfl (.int .i64 eva) (by as_aux_lemma => kernel_rfl) ?_
              simp only [Act.put, List.getElem_toArray, List.getElem_cons_succ, List.getElem_cons_zero, List.setIfInBounds_toArray, List.set_cons_succ, List.set_cons_zero]
              clear hxa hbba hbKa hxxa hXa hba hbEa hoka hbada hva hoa hea CTa
              go_upto_region 5 with fail
              have CTb := hid (tkCommand_any (.slice xo1 B1.length xc1) (B1) wEa HR1_a.out HL1.out)
              apply wp_region_lit
              refine Great.wpList_readTo rfl (some 82) rfl (.slice xo1 B1.length xc1) (by as_aux_lemma => kernel_rfl) ?_
              simp only [Act.put, List.getElem_toArray, List.getElem_cons_succ, List.getElem_cons_zero, List.setIfInBounds_toArray, List.set_cons_succ, List.set_cons_zero]
              refine wpList_callAny rfl (some 83) rfl 9 #[.slice xo1 B1.length xc1] (by as_aux_lemma => kernel_rfl) CTb.out ?_
              rintro en wTb htb
              obtain ⟨Vb, evb, rfl, heb, hvb, hob, hokb, hbadb, hbb⟩ := TkR.any zCommand_wide htb
              refine ⟨_, rfl, ?_⟩
              simp only [Act.put, List.getElem_toArray, List.getElem_cons_succ, List.getElem_cons_zero, List.setIfInBounds_toArray, List.set_cons_succ, List.set_cons_zero]
              clear htb
              refine Great.wpList_readTo rfl (some 81) rfl (.tuple #[.agg Vb, .int .i64 evb]) (by as_aux_lemma => kernel_rfl) ?_
              simp only [Act.put, List.getElem_toArray, List.getElem_cons_succ, List.getElem_cons_zero, List.setIfInBounds_toArray, List.set_cons_succ, List.set_cons_zero]
              refine Great.wpList_readTo rfl (some 84) rfl (.agg Vb) (by as_aux_lemma => kernel_rfl) ?_
              simp only [Act.put, List.getElem_toArray, List.getElem_cons_succ, List.getElem_cons_zero, List.setIfInBounds_toArray, List.set_cons_succ, List.set_cons_zero]
              refine Great.wpList_readTo rfl (some 85) rfl (.int .i64 evb) (by as_aux_lemma => kernel_rfl) ?_
              simp only [Act.put, List.getElem_toArray, List.getElem_cons_succ, List.getElem_cons_zero, List.setIfInBounds_toArray, List.set_cons_succ, List.set_cons_zero]
              refine Great.wpList_allocTo rfl (some 17) rfl _ _ (alloc_Command _ wTb _ _ _ _) ?_
              simp only [Act.put, List.getElem_toArray, List.getElem_cons_succ, List.getElem_cons_zero, List.setIfInBounds_toArray, List.set_cons_succ, List.set_cons_zero]
              have hxb := heap_alloc_new wTb (.cells zCommand.toArray 43)
              have hbbb : Below wTb.heap.size wTb (wTb.alloc (.cells zCommand.toArray 43)) := (Below.refl _ _).alloc (Nat.le_refl _) _
              have HIVb : Hid ((Tryz.prog.info? 43).map (·.size) = some Vb.size) := hid (by rw [hvb]; exact info_Command)
              refine Go.wpList_store_rowTo rfl 43 _ _ rfl rfl wTb.heap.size Vb rfl rfl 43 zCommand.toArray hxb HIVb.out (zCommand_row.1.trans (show 25 = Vb.size from hvb.symm)) hob ?_
              have hbKb : Below wTb.heap.size wTb ((wTb.alloc (.cells zCommand.toArray 43)).setRow wTb.heap.size Vb) := ((Keep.of_below (X := fun j => j = wTb.heap.size) hbbb).trans (setRow_keep _ _ _)).below (Nat.le_refl _) (fun k e => by have e9 : k = wTb.heap.size := e; omega)
              have hxxb := setRow_heap (wTb.alloc (.cells zCommand.toArray 43)) wTb.heap.size _ Vb _ _ hxb
              obtain ⟨Xb, hXb⟩ : ∃ X, X = wTb.heap.size := ⟨_, rfl⟩
              rw [← hXb] at hxxb hbKb ⊢
              generalize (wTb.alloc (.cells zCommand.toArray 43)).setRow Xb Vb = wEb at *
              rw [hXb] at hbKb
              have hbEb := hbb.trans (hbKb.mono hbb.size)
              have HQb := hid (HQa.out.trans (hbEb.mono HQa.out.size))
              have HXb := hid hxxb
              have HOKb : Hid (evb = 0 → Enc wEb sCommand Vb.toList (rdF sCommand (B1, 0)).1) := hid fun e => (EncN.enc _ (hokb e)).old hbKb
              have HEVb := hid heb
              have HR0_b := hid (HR0_a.out.old hbEb)
              have HR1_b := hid (HR1_a.out.old hbEb)
              have HR2_b := hid (HR2_a.out.old hbEb)
              have HR3_b := hid (HR3_a.out.old hbEb)
              have HOKa_b := hid (fun e => (HOKa.out e).old hbEb)
              have HXa_b := hid ((hbEb.block _ (lt_of_block HXa.out)).trans HXa.out)
              refine Great.wpList_readTo rfl (some 18) rfl (.int .i64 evb) (by as_aux_lemma => kernel_rfl) ?_
              simp only [Act.put, List.getElem_toArray, List.getElem_cons_succ, List.getElem_cons_zero, List.setIfInBounds_toArray, List.set_cons_succ, List.set_cons_zero]
              clear hxb hbbb hbKb hxxb hXb hbb hbEb hokb hbadb hvb hob heb CTb
              go_upto_region 6 with fail
              have CTc := hid (tkReply_any (.slice xo2 B2.length xc2) (B2) wEb HR2_b.out HL2.out)
              apply wp_region_lit
              refine Great.wpList_readTo rfl (some 87) rfl (.slice xo2 B2.length xc2) (by as_aux_lemma => kernel_rfl) ?_
              simp only [Act.put, List.getElem_toArray, List.getElem_cons_succ, List.getElem_cons_zero, List.setIfInBounds_toArray, List.set_cons_succ, List.set_cons_zero]
              refine wpList_callAny rfl (some 88) rfl 11 #[.slice xo2 B2.length xc2] (by as_aux_lemma => kernel_rfl) CTc.out ?_
              rintro en wTc htc
              obtain ⟨Vc, evc, rfl, hec, hvc, hoc, hokc, hbadc, hbc⟩ := TkR.any zReply_wide htc
              refine ⟨_, rfl, ?_⟩
              simp only [Act.put, List.getElem_toArray, List.getElem_cons_succ, List.getElem_cons_zero, List.setIfInBounds_toArray, List.set_cons_succ, List.set_cons_zero]
              clear htc
              refine Great.wpList_readTo rfl (some 86) rfl (.tuple #[.agg Vc, .int .i64 evc]) (by as_aux_lemma => kernel_rfl) ?_
              simp only [Act.put, List.getElem_toArray, List.getElem_cons_succ, List.getElem_cons_zero, List.setIfInBounds_toArray, List.set_cons_succ, List.set_cons_zero]
              refine Great.wpList_readTo rfl (some 89) rfl (.agg Vc) (by as_aux_lemma => kernel_rfl) ?_
              simp only [Act.put, List.getElem_toArray, List.getElem_cons_succ, List.getElem_cons_zero, List.setIfInBounds_toArray, List.set_cons_succ, List.set_cons_zero]
              refine Great.wpList_readTo rfl (some 90) rfl (.int .i64 evc) (by as_aux_lemma => kernel_rfl) ?_
              simp only [Act.put, List.getElem_toArray, List.getElem_cons_succ, List.getElem_cons_zero, List.setIfInBounds_toArray, List.set_cons_succ, List.set_cons_zero]
              refine Great.wpList_allocTo rfl (some 19) rfl _ _ (alloc_Reply _ wTc _ _ _ _) ?_
              simp only [Act.put, List.getElem_toArray, List.getElem_cons_succ, List.getElem_cons_zero, List.setIfInBounds_toArray, List.set_cons_succ, List.set_cons_zero]
              have hxc := heap_alloc_new wTc (.cells zReply.toArray 55)
              have hbbc : Below wTc.heap.size wTc (wTc.alloc (.cells zReply.toArray 55)) := (Below.refl _ _).alloc (Nat.le_refl _) _
              have HIVc : Hid ((Tryz.prog.info? 55).map (·.size) = some Vc.size) := hid (by rw [hvc]; exact info_Reply)
              refine Go.wpList_store_rowTo rfl 55 _ _ rfl rfl wTc.heap.size Vc rfl rfl 55 zReply.toArray hxc HIVc.out (zReply_row.1.trans (show 15 = Vc.size from hvc.symm)) hoc ?_
              have hbKc : Below wTc.heap.size wTc ((wTc.alloc (.cells zReply.toArray 55)).setRow wTc.heap.size Vc) := ((Keep.of_below (X := fun j => j = wTc.heap.size) hbbc).trans (setRow_keep _ _ _)).below (Nat.le_refl _) (fun k e => by have e9 : k = wTc.heap.size := e; omega)
              have hxxc := setRow_heap (wTc.alloc (.cells zReply.toArray 55)) wTc.heap.size _ Vc _ _ hxc
              obtain ⟨Xc, hXc⟩ : ∃ X, X = wTc.heap.size := ⟨_, rfl⟩
              rw [← hXc] at hxxc hbKc ⊢
              generalize (wTc.alloc (.cells zReply.toArray 55)).setRow Xc Vc = wEc at *
              rw [hXc] at hbKc
              have hbEc := hbc.trans (hbKc.mono hbc.size)
              have HQc := hid (HQb.out.trans (hbEc.mono HQb.out.size))
              have HXc := hid hxxc
              have HOKc : Hid (evc = 0 → Enc wEc sReply Vc.toList (rdF sReply (B2, 0)).1) := hid fun e => (EncN.enc _ (hokc e)).old hbKc
              have HEVc := hid hec
              have HR0_c := hid (HR0_b.out.old hbEc)
              have HR1_c := hid (HR1_b.out.old hbEc)
              have HR2_c := hid (HR2_b.out.old hbEc)
              have HR3_c := hid (HR3_b.out.old hbEc)
              have HOKa_c := hid (fun e => (HOKa_b.out e).old hbEc)
              have HOKb_c := hid (fun e => (HOKb.out e).old hbEc)
              have HXa_c := hid ((hbEc.block _ (lt_of_block HXa_b.out)).trans HXa_b.out)
              have HXb_c := hid ((hbEc.block _ (lt_of_block HXb.out)).trans HXb.out)
              refine Great.wpList_readTo rfl (some 20) rfl (.int .i64 evc) (by as_aux_lemma => kernel_rfl) ?_
              simp only [Act.put, List.getElem_toArray, List.getElem_cons_succ, List.getElem_cons_zero, List.setIfInBounds_toArray, List.set_cons_succ, List.set_cons_zero]
              clear hxc hbbc hbKc hxxc hXc hbc hbEc hokc hbadc hvc hoc hec CTc
              go_upto_region 7 with fail
              have CTd := hid (tkAsk_any (.slice xo3 B3.length xc3) (B3) wEc HR3_c.out HL3.out)
              apply wp_region_lit
              refine Great.wpList_readTo rfl (some 92) rfl (.slice xo3 B3.length xc3) (by as_aux_lemma => kernel_rfl) ?_
              simp only [Act.put, List.getElem_toArray, List.getElem_cons_succ, List.getElem_cons_zero, List.setIfInBounds_toArray, List.set_cons_succ, List.set_cons_zero]
              refine wpList_callAny rfl (some 93) rfl 15 #[.slice xo3 B3.length xc3] (by as_aux_lemma => kernel_rfl) CTd.out ?_
              rintro en wTd htd
              obtain ⟨Vd, evd, rfl, hed, hvd, hod, hokd, hbadd, hbd⟩ := TkR.any zAsk_wide htd
              refine ⟨_, rfl, ?_⟩
              simp only [Act.put, List.getElem_toArray, List.getElem_cons_succ, List.getElem_cons_zero, List.setIfInBounds_toArray, List.set_cons_succ, List.set_cons_zero]
              clear htd
              refine Great.wpList_readTo rfl (some 91) rfl (.tuple #[.agg Vd, .int .i64 evd]) (by as_aux_lemma => kernel_rfl) ?_
              simp only [Act.put, List.getElem_toArray, List.getElem_cons_succ, List.getElem_cons_zero, List.setIfInBounds_toArray, List.set_cons_succ, List.set_cons_zero]
              refine Great.wpList_readTo rfl (some 94) rfl (.agg Vd) (by as_aux_lemma => kernel_rfl) ?_
              simp only [Act.put, List.getElem_toArray, List.getElem_cons_succ, List.getElem_cons_zero, List.setIfInBounds_toArray, List.set_cons_succ, List.set_cons_zero]
              refine Great.wpList_readTo rfl (some 95) rfl (.int .i64 evd) (by as_aux_lemma => kernel_rfl) ?_
              simp only [Act.put, List.getElem_toArray, List.getElem_cons_succ, List.getElem_cons_zero, List.setIfInBounds_toArray, List.set_cons_succ, List.set_cons_zero]
              refine Great.wpList_allocTo rfl (some 21) rfl _ _ (alloc_Ask _ wTd _ _ _ _) ?_
              simp only [Act.put, List.getElem_toArray, List.getElem_cons_succ, List.getElem_cons_zero, List.setIfInBounds_toArray, List.set_cons_succ, List.set_cons_zero]
              have hxd := heap_alloc_new wTd (.cells zAsk.toArray 62)
              have hbbd : Below wTd.heap.size wTd (wTd.alloc (.cells zAsk.toArray 62)) := (Below.refl _ _).alloc (Nat.le_refl _) _
              have HIVd : Hid ((Tryz.prog.info? 62).map (·.size) = some Vd.size) := hid (by rw [hvd]; exact info_Ask)
              refine Go.wpList_store_rowTo rfl 62 _ _ rfl rfl wTd.heap.size Vd rfl rfl 62 zAsk.toArray hxd HIVd.out (zAsk_row.1.trans (show 16 = Vd.size from hvd.symm)) hod ?_
              have hbKd : Below wTd.heap.size wTd ((wTd.alloc (.cells zAsk.toArray 62)).setRow wTd.heap.size Vd) := ((Keep.of_below (X := fun j => j = wTd.heap.size) hbbd).trans (setRow_keep _ _ _)).below (Nat.le_refl _) (fun k e => by have e9 : k = wTd.heap.size := e; omega)
              have hxxd := setRow_heap (wTd.alloc (.cells zAsk.toArray 62)) wTd.heap.size _ Vd _ _ hxd
              obtain ⟨Xd, hXd⟩ : ∃ X, X = wTd.heap.size := ⟨_, rfl⟩
              rw [← hXd] at hxxd hbKd ⊢
              generalize (wTd.alloc (.cells zAsk.toArray 62)).setRow Xd Vd = wEd at *
              rw [hXd] at hbKd
              have hbEd := hbd.trans (hbKd.mono hbd.size)
              have HQd := hid (HQc.out.trans (hbEd.mono HQc.out.size))
              have HXd := hid hxxd
              have HOKd : Hid (evd = 0 → Enc wEd sAsk Vd.toList (rdF sAsk (B3, 0)).1) := hid fun e => (EncN.enc _ (hokd e)).old hbKd
              have HEVd := hid hed
              have HR0_d := hid (HR0_c.out.old hbEd)
              have HR1_d := hid (HR1_c.out.old hbEd)
              have HR2_d := hid (HR2_c.out.old hbEd)
              have HR3_d := hid (HR3_c.out.old hbEd)
              have HOKa_d := hid (fun e => (HOKa_c.out e).old hbEd)
              have HOKb_d := hid (fun e => (HOKb_c.out e).old hbEd)
              have HOKc_d := hid (fun e => (HOKc.out e).old hbEd)
              have HXa_d := hid ((hbEd.block _ (lt_of_block HXa_c.out)).trans HXa_c.out)
              have HXb_d := hid ((hbEd.block _ (lt_of_block HXb_c.out)).trans HXb_c.out)
              have HXc_d := hid ((hbEd.block _ (lt_of_block HXc.out)).trans HXc.out)
              refine Great.wpList_readTo rfl (some 22) rfl (.int .i64 evd) (by as_aux_lemma => kernel_rfl) ?_
              simp only [Act.put, List.getElem_toArray, List.getElem_cons_succ, List.getElem_cons_zero, List.setIfInBounds_toArray, List.set_cons_succ, List.set_cons_zero]
              clear hxd hbbd hbKd hxxd hXd hbd hbEd hokd hbadd hvd hod hed CTd
              go_upto_region 8 with fail
              have HXd_d := hid HXd.out
              have HOKd_d := hid HOKd.out
              have hp0 : 1 ≤ B0.length := full_pos sCall (by decide) HEN0.out
              have hne0 : ((B0.length : Int) == 0) = false := by rw [beq_eq_false_iff_ne]; omega
              have hp1 : 1 ≤ B1.length := full_pos sCommand (by decide) HEN1.out
              have hne1 : ((B1.length : Int) == 0) = false := by rw [beq_eq_false_iff_ne]; omega
              have hp2 : 1 ≤ B2.length := full_pos sReply (by decide) HEN2.out
              have hne2 : ((B2.length : Int) == 0) = false := by rw [beq_eq_false_iff_ne]; omega
              have hp3 : 1 ≤ B3.length := full_pos sAsk (by decide) HEN3.out
              have hne3 : ((B3.length : Int) == 0) = false := by rw [beq_eq_false_iff_ne]; omega
              go_upto_region 10 with (first | (go_at_call 5; refine (xawake_any _).mono ?_; rintro en wf ⟨rfl, hbf⟩; have HQf := hid (HQd.out.trans (hbf.mono HQd.out.size)); have HR0_f := hid (HR0_d.out.old hbf); have HR1_f := hid (HR1_d.out.old hbf); have HR2_f := hid (HR2_d.out.old hbf); have HR3_f := hid (HR3_d.out.old hbf); have HXa_f := hid ((hbf.block _ (lt_of_block HXa_d.out)).trans HXa_d.out); have HOKa_f := hid (fun e => (HOKa_d.out e).old hbf); have HXb_f := hid ((hbf.block _ (lt_of_block HXb_d.out)).trans HXb_d.out); have HOKb_f := hid (fun e => (HOKb_d.out e).old hbf); have HXc_f := hid ((hbf.block _ (lt_of_block HXc_d.out)).trans HXc_d.out); have HOKc_f := hid (fun e => (HOKc_d.out e).old hbf); have HXd_f := hid ((hbf.block _ (lt_of_block HXd_d.out)).trans HXd_d.out); have HOKd_f := hid (fun e => (HOKd_d.out e).old hbf); clear hbf))
              clear hne0 hne1 hne2 hne3
              obtain ⟨M, hM, hM0, hM1, hM2, hM3⟩ := max4 Tryz.prog (B0.length : Int) (B1.length : Int) (B2.length : Int) (B3.length : Int)
              by_cases q9 : (5000 : Int) < M
              · go_wp2_with fail
                go_ret
                exact ⟨rfl, HB1.out _ HQf.out⟩
              have HLE : Hid (B0.length ≤ 5000 ∧ B1.length ≤ 5000 ∧ B2.length ≤ 5000 ∧ B3.length ≤ 5000) := hid (by omega)
              go_upto_region 12 with fail
              clear hM hM0 hM1 hM2 hM3 q9
              obtain ⟨u, hu⟩ : ∃ u : Nat, IntKind.u64.wrap a4 = (u : Int) := by rw [wrap_u64]; exact ⟨(a4 % 18446744073709551616).toNat, by omega⟩
              obtain ⟨kg, hkg⟩ : ∃ k, k = u % B1.length := ⟨_, rfl⟩
              have hklg : kg < B1.length := by rw [hkg]; exact Nat.mod_lt _ (by omega)
              have hktg : (u : Int).tmod (B1.length : Int) = (kg : Int) := by rw [hkg]; rfl
              have hlng : IntKind.u64.wrap (B1.length : Int) = (B1.length : Int) := by rw [wrap_u64]; have := HLE.out; omega
              have hkwg : IntKind.i64.wrap (kg : Int) = (kg : Int) := by rw [IntKind.wrap_i64]; have := HLE.out; omega
              have hn0g : ¬ B1.length = 0 := by omega
              have hslg : ¬ xc1 < kg := by omega
              have HRTg := hid (HR1_f.out.take kg (Nat.le_of_lt hklg))
              have HLTg : Hid ((B1.take kg).length ≤ 140737488355328) := hid (by rw [List.length_take]; have := HLE.out; omega)
              have HKg := hid (And.intro hkg hklg)
              clear hkg
              apply wp_region_lit
              refine Great.wpList_readTo rfl (some 129) rfl (.slice xo1 B1.length xc1) (by as_aux_lemma => kernel_rfl) ?_
              simp only [Act.put, List.getElem_toArray, List.getElem_cons_succ, List.getElem_cons_zero, List.setIfInBounds_toArray, List.set_cons_succ, List.set_cons_zero]
              refine Great.wpList_readTo rfl (some 130) rfl (.int .i64 a4) (by as_aux_lemma => kernel_rfl) ?_
              simp only [Act.put, List.getElem_toArray, List.getElem_cons_succ, List.getElem_cons_zero, List.setIfInBounds_toArray, List.set_cons_succ, List.set_cons_zero]
              refine Great.wpList_readTo rfl (some 131) rfl (.int .u64 (u : Int)) (by go_simp) ?_
              simp only [Act.put, List.getElem_toArray, List.getElem_cons_succ, List.getElem_cons_zero, List.setIfInBounds_toArray, List.set_cons_succ, List.set_cons_zero]
              refine Great.wpList_readTo rfl (some 132) rfl (.slice xo1 B1.length xc1) (by as_aux_lemma => kernel_rfl) ?_
              simp only [Act.put, List.getElem_toArray, List.getElem_cons_succ, List.getElem_cons_zero, List.setIfInBounds_toArray, List.set_cons_succ, List.set_cons_zero]
              refine Great.wpList_readTo rfl (some 133) rfl (.int .i64 (B1.length : Int)) (by go_simp) ?_
              simp only [Act.put, List.getElem_toArray, List.getElem_cons_succ, List.getElem_cons_zero, List.setIfInBounds_toArray, List.set_cons_succ, List.set_cons_zero]
              refine Great.wpList_readTo rfl (some 134) rfl (.int .u64 (B1.length : Int)) (by go_simp) ?_
              simp only [Act.put, List.getElem_toArray, List.getElem_cons_succ, List.getElem_cons_zero, List.setIfInBounds_toArray, List.set_cons_succ, List.set_cons_zero]
              refine Great.wpList_readTo rfl (some 135) rfl (.int .u64 (kg : Int)) (by go_simp) ?_
              simp only [Act.put, List.getElem_toArray, List.getElem_cons_succ, List.getElem_cons_zero, List.setIfInBounds_toArray, List.set_cons_succ, List.set_cons_zero]
              refine Great.wpList_readTo rfl (some 136) rfl (.int .i64 (kg : Int)) (by go_simp) ?_
              simp only [Act.put, List.getElem_toArray, List.getElem_cons_succ, List.getElem_cons_zero, List.setIfInBounds_toArray, List.set_cons_succ, List.set_cons_zero]
              refine Great.wpList_readTo rfl (some 137) rfl (.slice xo1 kg xc1) (by go_simp) ?_
              simp only [Act.put, List.getElem_toArray, List.getElem_cons_succ, List.getElem_cons_zero, List.setIfInBounds_toArray, List.set_cons_succ, List.set_cons_zero]
              clear hktg hlng hkwg hn0g hslg hklg
              have CTg := hid (tkCommand_any (.slice xo1 kg xc1) (B1.take kg) wf HRTg.out HLTg.out)
              refine wpList_callAny rfl (some 138) rfl 9 #[.slice xo1 kg xc1] (by as_aux_lemma => kernel_rfl) CTg.out ?_
              rintro en wTg htg
              obtain ⟨Vg, evg, rfl, heg, hvg, hog, hokg, hbadg, hbg⟩ := TkR.any zCommand_wide htg
              refine ⟨_, rfl, ?_⟩
              simp only [Act.put, List.getElem_toArray, List.getElem_cons_succ, List.getElem_cons_zero, List.setIfInBounds_toArray, List.set_cons_succ, List.set_cons_zero]
              clear htg
              refine Great.wpList_readTo rfl (some 128) rfl (.tuple #[.agg Vg, .int .i64 evg]) (by as_aux_lemma => kernel_rfl) ?_
              simp only [Act.put, List.getElem_toArray, List.getElem_cons_succ, List.getElem_cons_zero, List.setIfInBounds_toArray, List.set_cons_succ, List.set_cons_zero]
              refine Great.wpList_readTo rfl (some 139) rfl (.agg Vg) (by as_aux_lemma => kernel_rfl) ?_
              simp only [Act.put, List.getElem_toArray, List.getElem_cons_succ, List.getElem_cons_zero, List.setIfInBounds_toArray, List.set_cons_succ, List.set_cons_zero]
              refine Great.wpList_readTo rfl (some 140) rfl (.int .i64 evg) (by as_aux_lemma => kernel_rfl) ?_
              simp only [Act.put, List.getElem_toArray, List.getElem_cons_succ, List.getElem_cons_zero, List.setIfInBounds_toArray, List.set_cons_succ, List.set_cons_zero]
              refine Great.wpList_allocTo rfl (some 23) rfl _ _ (alloc_Command _ wTg _ _ _ _) ?_
              simp only [Act.put, List.getElem_toArray, List.getElem_cons_succ, List.getElem_cons_zero, List.setIfInBounds_toArray, List.set_cons_succ, List.set_cons_zero]
              have hxg := heap_alloc_new wTg (.cells zCommand.toArray 43)
              have hbbg : Below wTg.heap.size wTg (wTg.alloc (.cells zCommand.toArray 43)) := (Below.refl _ _).alloc (Nat.le_refl _) _
              have HIVg : Hid ((Tryz.prog.info? 43).map (·.size) = some Vg.size) := hid (by rw [hvg]; exact info_Command)
              refine Go.wpList_store_rowTo rfl 43 _ _ rfl rfl wTg.heap.size Vg rfl rfl 43 zCommand.toArray hxg HIVg.out (zCommand_row.1.trans (show 25 = Vg.size from hvg.symm)) hog ?_
              have hbKg : Below wTg.heap.size wTg ((wTg.alloc (.cells zCommand.toArray 43)).setRow wTg.heap.size Vg) := ((Keep.of_below (X := fun j => j = wTg.heap.size) hbbg).trans (setRow_keep _ _ _)).below (Nat.le_refl _) (fun k e => by have e9 : k = wTg.heap.size := e; omega)
              have hxxg := setRow_heap (wTg.alloc (.cells zCommand.toArray 43)) wTg.heap.size _ Vg _ _ hxg
              obtain ⟨Xg, hXg⟩ : ∃ X, X = wTg.heap.size := ⟨_, rfl⟩
              rw [← hXg] at hxxg hbKg ⊢
              generalize (wTg.alloc (.cells zCommand.toArray 43)).setRow Xg Vg = wEg at *
              rw [hXg] at hbKg
              have hbEg := hbg.trans (hbKg.mono hbg.size)
              have HQg := hid (HQf.out.trans (hbEg.mono HQf.out.size))
              have HXg := hid hxxg
              have HOKg : Hid (evg = 0 → Enc wEg sCommand Vg.toList (rdF sCommand (B1.take kg, 0)).1) := hid fun e => (EncN.enc _ (hokg e)).old hbKg
              have HEVg := hid heg
              have HR0_g := hid (HR0_f.out.old hbEg)
              have HR1_g := hid (HR1_f.out.old hbEg)
              have HR2_g := hid (HR2_f.out.old hbEg)
              have HR3_g := hid (HR3_f.out.old hbEg)
              have HXa_g := hid ((hbEg.block _ (lt_of_block HXa_f.out)).trans HXa_f.out)
              have HOKa_g := hid (fun e => (HOKa_f.out e).old hbEg)
              have HXb_g := hid ((hbEg.block _ (lt_of_block HXb_f.out)).trans HXb_f.out)
              have HOKb_g := hid (fun e => (HOKb_f.out e).old hbEg)
              have HXc_g := hid ((hbEg.block _ (lt_of_block HXc_f.out)).trans HXc_f.out)
              have HOKc_g := hid (fun e => (HOKc_f.out e).old hbEg)
              have HXd_g := hid ((hbEg.block _ (lt_of_block HXd_f.out)).trans HXd_f.out)
              have HOKd_g := hid (fun e => (HOKd_f.out e).old hbEg)
              refine Great.wpList_readTo rfl (some 24) rfl (.int .i64 evg) (by as_aux_lemma => kernel_rfl) ?_
              simp only [Act.put, List.getElem_toArray, List.getElem_cons_succ, List.getElem_cons_zero, List.setIfInBounds_toArray, List.set_cons_succ, List.set_cons_zero]
              clear hxg hbbg hbKg hxxg hXg hbg hbEg hokg hbadg hvg hog heg CTg
              go_upto_region 13 with fail
              obtain ⟨kh, hkh⟩ : ∃ k, k = u % B2.length := ⟨_, rfl⟩
              have hklh : kh < B2.length := by rw [hkh]; exact Nat.mod_lt _ (by omega)
              have hkth : (u : Int).tmod (B2.length : Int) = (kh : Int) := by rw [hkh]; rfl
              have hlnh : IntKind.u64.wrap (B2.length : Int) = (B2.length : Int) := by rw [wrap_u64]; have := HLE.out; omega
              have hkwh : IntKind.i64.wrap (kh : Int) = (kh : Int) := by rw [IntKind.wrap_i64]; have := HLE.out; omega
              have hn0h : ¬ B2.length = 0 := by omega
              have hslh : ¬ xc2 < kh := by omega
              have HRTh := hid (HR2_g.out.take kh (Nat.le_of_lt hklh))
              have HLTh : Hid ((B2.take kh).length ≤ 140737488355328) := hid (by rw [List.length_take]; have := HLE.out; omega)
              have HKh := hid (And.intro hkh hklh)
              clear hkh
              apply wp_region_lit
              refine Great.wpList_readTo rfl (some 142) rfl (.slice xo2 B2.length xc2) (by as_aux_lemma => kernel_rfl) ?_
              simp only [Act.put, List.getElem_toArray, List.getElem_cons_succ, List.getElem_cons_zero, List.setIfInBounds_toArray, List.set_cons_succ, List.set_cons_zero]
              refine Great.wpList_readTo rfl (some 143) rfl (.int .i64 a4) (by as_aux_lemma => kernel_rfl) ?_
              simp only [Act.put, List.getElem_toArray, List.getElem_cons_succ, List.getElem_cons_zero, List.setIfInBounds_toArray, List.set_cons_succ, List.set_cons_zero]
              refine Great.wpList_readTo rfl (some 144) rfl (.int .u64 (u : Int)) (by go_simp) ?_
              simp only [Act.put, List.getElem_toArray, List.getElem_cons_succ, List.getElem_cons_zero, List.setIfInBounds_toArray, List.set_cons_succ, List.set_cons_zero]
              refine Great.wpList_readTo rfl (some 145) rfl (.slice xo2 B2.length xc2) (by as_aux_lemma => kernel_rfl) ?_
              simp only [Act.put, List.getElem_toArray, List.getElem_cons_succ, List.getElem_cons_zero, List.setIfInBounds_toArray, List.set_cons_succ, List.set_cons_zero]
              refine Great.wpList_readTo rfl (some 146) rfl (.int .i64 (B2.length : Int)) (by go_simp) ?_
              simp only [Act.put, List.getElem_toArray, List.getElem_cons_succ, List.getElem_cons_zero, List.setIfInBounds_toArray, List.set_cons_succ, List.set_cons_zero]
              refine Great.wpList_readTo rfl (some 147) rfl (.int .u64 (B2.length : Int)) (by go_simp) ?_
              simp only [Act.put, List.getElem_toArray, List.getElem_cons_succ, List.getElem_cons_zero, List.setIfInBounds_toArray, List.set_cons_succ, List.set_cons_zero]
              refine Great.wpList_readTo rfl (some 148) rfl (.int .u64 (kh : Int)) (by go_simp) ?_
              simp only [Act.put, List.getElem_toArray, List.getElem_cons_succ, List.getElem_cons_zero, List.setIfInBounds_toArray, List.set_cons_succ, List.set_cons_zero]
              refine Great.wpList_readTo rfl (some 149) rfl (.int .i64 (kh : Int)) (by go_simp) ?_
              simp only [Act.put, List.getElem_toArray, List.getElem_cons_succ, List.getElem_cons_zero, List.setIfInBounds_toArray, List.set_cons_succ, List.set_cons_zero]
              refine Great.wpList_readTo rfl (some 150) rfl (.slice xo2 kh xc2) (by go_simp) ?_
              simp only [Act.put, List.getElem_toArray, List.getElem_cons_succ, List.getElem_cons_zero, List.setIfInBounds_toArray, List.set_cons_succ, List.set_cons_zero]
              clear hkth hlnh hkwh hn0h hslh hklh
              have CTh := hid (tkReply_any (.slice xo2 kh xc2) (B2.take kh) wEg HRTh.out HLTh.out)
              refine wpList_callAny rfl (some 151) rfl 11 #[.slice xo2 kh xc2] (by as_aux_lemma => kernel_rfl) CTh.out ?_
              rintro en wTh hth
              obtain ⟨Vh, evh, rfl, heh, hvh, hoh, hokh, hbadh, hbh⟩ := TkR.any zReply_wide hth
              refine ⟨_, rfl, ?_⟩
              simp only [Act.put, List.getElem_toArray, List.getElem_cons_succ, List.getElem_cons_zero, List.setIfInBounds_toArray, List.set_cons_succ, List.set_cons_zero]
              clear hth
              refine Great.wpList_readTo rfl (some 141) rfl (.tuple #[.agg Vh, .int .i64 evh]) (by as_aux_lemma => kernel_rfl) ?_
              simp only [Act.put, List.getElem_toArray, List.getElem_cons_succ, List.getElem_cons_zero, List.setIfInBounds_toArray, List.set_cons_succ, List.set_cons_zero]
              refine Great.wpList_readTo rfl (some 152) rfl (.agg Vh) (by as_aux_lemma => kernel_rfl) ?_
              simp only [Act.put, List.getElem_toArray, List.getElem_cons_succ, List.getElem_cons_zero, List.setIfInBounds_toArray, List.set_cons_succ, List.set_cons_zero]
              refine Great.wpList_readTo rfl (some 153) rfl (.int .i64 evh) (by as_aux_lemma => kernel_rfl) ?_
              simp only [Act.put, List.getElem_toArray, List.getElem_cons_succ, List.getElem_cons_zero, List.setIfInBounds_toArray, List.set_cons_succ, List.set_cons_zero]
              refine Great.wpList_allocTo rfl (some 25) rfl _ _ (alloc_Reply _ wTh _ _ _ _) ?_
              simp only [Act.put, List.getElem_toArray, List.getElem_cons_succ, List.getElem_cons_zero, List.setIfInBounds_toArray, List.set_cons_succ, List.set_cons_zero]
              have hxh := heap_alloc_new wTh (.cells zReply.toArray 55)
              have hbbh : Below wTh.heap.size wTh (wTh.alloc (.cells zReply.toArray 55)) := (Below.refl _ _).alloc (Nat.le_refl _) _
              have HIVh : Hid ((Tryz.prog.info? 55).map (·.size) = some Vh.size) := hid (by rw [hvh]; exact info_Reply)
              refine Go.wpList_store_rowTo rfl 55 _ _ rfl rfl wTh.heap.size Vh rfl rfl 55 zReply.toArray hxh HIVh.out (zReply_row.1.trans (show 15 = Vh.size from hvh.symm)) hoh ?_
              have hbKh : Below wTh.heap.size wTh ((wTh.alloc (.cells zReply.toArray 55)).setRow wTh.heap.size Vh) := ((Keep.of_below (X := fun j => j = wTh.heap.size) hbbh).trans (setRow_keep _ _ _)).below (Nat.le_refl _) (fun k e => by have e9 : k = wTh.heap.size := e; omega)
              have hxxh := setRow_heap (wTh.alloc (.cells zReply.toArray 55)) wTh.heap.size _ Vh _ _ hxh
              obtain ⟨Xh, hXh⟩ : ∃ X, X = wTh.heap.size := ⟨_, rfl⟩
              rw [← hXh] at hxxh hbKh ⊢
              generalize (wTh.alloc (.cells zReply.toArray 55)).setRow Xh Vh = wEh at *
              rw [hXh] at hbKh
              have hbEh := hbh.trans (hbKh.mono hbh.size)
              have HQh := hid (HQg.out.trans (hbEh.mono HQg.out.size))
              have HXh := hid hxxh
              have HOKh : Hid (evh = 0 → Enc wEh sReply Vh.toList (rdF sReply (B2.take kh, 0)).1) := hid fun e => (EncN.enc _ (hokh e)).old hbKh
              have HEVh := hid heh
              have HR0_h := hid (HR0_g.out.old hbEh)
              have HR1_h := hid (HR1_g.out.old hbEh)
              have HR2_h := hid (HR2_g.out.old hbEh)
              have HR3_h := hid (HR3_g.out.old hbEh)
              have HXa_h := hid ((hbEh.block _ (lt_of_block HXa_g.out)).trans HXa_g.out)
              have HOKa_h := hid (fun e => (HOKa_g.out e).old hbEh)
              have HXb_h := hid ((hbEh.block _ (lt_of_block HXb_g.out)).trans HXb_g.out)
              have HOKb_h := hid (fun e => (HOKb_g.out e).old hbEh)
              have HXc_h := hid ((hbEh.block _ (lt_of_block HXc_g.out)).trans HXc_g.out)
              have HOKc_h := hid (fun e => (HOKc_g.out e).old hbEh)
              have HXd_h := hid ((hbEh.block _ (lt_of_block HXd_g.out)).trans HXd_g.out)
              have HOKd_h := hid (fun e => (HOKd_g.out e).old hbEh)
              refine Great.wpList_readTo rfl (some 26) rfl (.int .i64 evh) (by as_aux_lemma => kernel_rfl) ?_
              simp only [Act.put, List.getElem_toArray, List.getElem_cons_succ, List.getElem_cons_zero, List.setIfInBounds_toArray, List.set_cons_succ, List.set_cons_zero]
              clear hxh hbbh hbKh hxxh hXh hbh hbEh hokh hbadh hvh hoh heh CTh
              go_upto_region 14 with fail
              have heva : eva = 0 := by rw [HEVa.out]; have h9 := rd_back sCall [] (by decide) HEN0.out (by have := HLE.out; omega); rw [List.append_nil] at h9; rw [h9]; rfl
              have htwa : Enc wEh sCall Va.toList B0 := by have h8 := HOKa_h.out heva; have h9 := rd_back sCall [] (by decide) HEN0.out (by have := HLE.out; omega); rw [List.append_nil] at h9; rw [h9] at h8; exact h8
              have HTWa := hid htwa
              clear htwa
              have hevb : evb = 0 := by rw [HEVb.out]; have h9 := rd_back sCommand [] (by decide) HEN1.out (by have := HLE.out; omega); rw [List.append_nil] at h9; rw [h9]; rfl
              have htwb : Enc wEh sCommand Vb.toList B1 := by have h8 := HOKb_h.out hevb; have h9 := rd_back sCommand [] (by decide) HEN1.out (by have := HLE.out; omega); rw [List.append_nil] at h9; rw [h9] at h8; exact h8
              have HTWb := hid htwb
              clear htwb
              have hevc : evc = 0 := by rw [HEVc.out]; have h9 := rd_back sReply [] (by decide) HEN2.out (by have := HLE.out; omega); rw [List.append_nil] at h9; rw [h9]; rfl
              have htwc : Enc wEh sReply Vc.toList B2 := by have h8 := HOKc_h.out hevc; have h9 := rd_back sReply [] (by decide) HEN2.out (by have := HLE.out; omega); rw [List.append_nil] at h9; rw [h9] at h8; exact h8
              have HTWc := hid htwc
              clear htwc
              have hevd : evd = 0 := by rw [HEVd.out]; have h9 := rd_back sAsk [] (by decide) HEN3.out (by have := HLE.out; omega); rw [List.append_nil] at h9; rw [h9]; rfl
              have htwd : Enc wEh sAsk Vd.toList B3 := by have h8 := HOKd_h.out hevd; have h9 := rd_back sAsk [] (by decide) HEN3.out (by have := HLE.out; omega); rw [List.append_nil] at h9; rw [h9] at h8; exact h8
              have HTWd := hid htwd
              clear htwd
              have hevg : evg = 8 := by rw [HEVg.out]; have h9 := rd_short sCommand kg (by decide) HEN1.out (by have := HLE.out; omega) HKg.out.2; unfold endS; rw [h9]; rfl
              have hevh : evh = 8 := by rw [HEVh.out]; have h9 := rd_short sReply kh (by decide) HEN2.out (by have := HLE.out; omega) HKh.out.2; unfold endS; rw [h9]; rfl
              subst heva hevb hevc hevd hevg hevh
              have HBX := hid (HB1.out _ HQh.out)
              have hsta : ∀ V, Below wEh.heap.size wEh V → Calls Tryz.prog 17 #[.agg U0, .agg Va] V (fun e w' => e = .returned (.bool true) ∧ Below V.heap.size V w') := fun V hV => by
                have h9 := sameCall_any (w := V) (Enc.old (HBX.out.trans (hV.mono HBX.out.size)) _ HEN0.out) (Enc.old hV _ HTWa.out)
                rw [← HUE0.out] at h9; simpa using h9
              have HSTa := hid hsta
              clear hsta
              have LVa : Hid (∀ V, Below wEh.heap.size wEh V → (Instr.loadAt 27 (.pointer (some ⟨Xa, 0, none⟩))).run Tryz.prog V = .ok (.agg Va) V) := hid fun V hV => row_load ((hV.block _ (lt_of_block HXa_h.out)).trans HXa_h.out) Tryz.underlying27 rfl HIVa.out
              have hstb : ∀ V, Below wEh.heap.size wEh V → Calls Tryz.prog 18 #[.agg U1, .agg Vb] V (fun e w' => e = .returned (.bool true) ∧ Below V.heap.size V w') := fun V hV => by
                have h9 := sameCommand_any (w := V) (Enc.old (HBX.out.trans (hV.mono HBX.out.size)) _ HEN1.out) (Enc.old hV _ HTWb.out)
                rw [← HUE1.out] at h9; simpa using h9
              have HSTb := hid hstb
              clear hstb
              have LVb : Hid (∀ V, Below wEh.heap.size wEh V → (Instr.loadAt 43 (.pointer (some ⟨Xb, 0, none⟩))).run Tryz.prog V = .ok (.agg Vb) V) := hid fun V hV => row_load ((hV.block _ (lt_of_block HXb_h.out)).trans HXb_h.out) Tryz.underlying43 rfl HIVb.out
              have hstc : ∀ V, Below wEh.heap.size wEh V → Calls Tryz.prog 19 #[.agg U2, .agg Vc] V (fun e w' => e = .returned (.bool true) ∧ Below V.heap.size V w') := fun V hV => by
                have h9 := sameReply_any (w := V) (Enc.old (HBX.out.trans (hV.mono HBX.out.size)) _ HEN2.out) (Enc.old hV _ HTWc.out)
                rw [← HUE2.out] at h9; simpa using h9
              have HSTc := hid hstc
              clear hstc
              have LVc : Hid (∀ V, Below wEh.heap.size wEh V → (Instr.loadAt 55 (.pointer (some ⟨Xc, 0, none⟩))).run Tryz.prog V = .ok (.agg Vc) V) := hid fun V hV => row_load ((hV.block _ (lt_of_block HXc_h.out)).trans HXc_h.out) Tryz.underlying55 rfl HIVc.out
              have hstd : ∀ V, Below wEh.heap.size wEh V → Calls Tryz.prog 21 #[.agg U3, .agg Vd] V (fun e w' => e = .returned (.bool true) ∧ Below V.heap.size V w') := fun V hV => by
                have h9 := sameAsk_any (w := V) (Enc.old (HBX.out.trans (hV.mono HBX.out.size)) _ HEN3.out) (Enc.old hV _ HTWd.out)
                rw [← HUE3.out] at h9; simpa using h9
              have HSTd := hid hstd
              clear hstd
              have LVd : Hid (∀ V, Below wEh.heap.size wEh V → (Instr.loadAt 62 (.pointer (some ⟨Xd, 0, none⟩))).run Tryz.prog V = .ok (.agg Vd) V) := hid fun V hV => row_load ((hV.block _ (lt_of_block HXd_h.out)).trans HXd_h.out) Tryz.underlying62 rfl HIVd.out
              apply wp_region_lit
              refine wpList_readG (by rfl) (some 154) rfl (.int .i64 0) (by as_aux_lemma => kernel_rfl) ?_
              simp only [Act.put, List.getElem_toArray, List.getElem_cons_succ, List.getElem_cons_zero, List.setIfInBounds_toArray, List.set_cons_succ, List.set_cons_zero]
              refine wpList_readG (by rfl) (some 155) rfl (.bool true) (by as_aux_lemma => kernel_rfl) ?_
              simp only [Act.put, List.getElem_toArray, List.getElem_cons_succ, List.getElem_cons_zero, List.setIfInBounds_toArray, List.set_cons_succ, List.set_cons_zero]
              refine wpList_readG (by rfl) (some 156) rfl (.bool true) (by as_aux_lemma => kernel_rfl) ?_
              simp only [Act.put, List.getElem_toArray, List.getElem_cons_succ, List.getElem_cons_zero, List.setIfInBounds_toArray, List.set_cons_succ, List.set_cons_zero]
              refine wpList_readG (by rfl) (some 157) rfl (.int .i64 0) (by as_aux_lemma => kernel_rfl) ?_
              simp only [Act.put, List.getElem_toArray, List.getElem_cons_succ, List.getElem_cons_zero, List.setIfInBounds_toArray, List.set_cons_succ, List.set_cons_zero]
              refine wpList_readG (by rfl) (some 158) rfl (.bool true) (by as_aux_lemma => kernel_rfl) ?_
              simp only [Act.put, List.getElem_toArray, List.getElem_cons_succ, List.getElem_cons_zero, List.setIfInBounds_toArray, List.set_cons_succ, List.set_cons_zero]
              refine wpList_readG (by rfl) (some 159) rfl (.bool true) (by as_aux_lemma => kernel_rfl) ?_
              simp only [Act.put, List.getElem_toArray, List.getElem_cons_succ, List.getElem_cons_zero, List.setIfInBounds_toArray, List.set_cons_succ, List.set_cons_zero]
              refine wpList_readG (by rfl) (some 160) rfl (.bool true) (by as_aux_lemma => kernel_rfl) ?_
              simp only [Act.put, List.getElem_toArray, List.getElem_cons_succ, List.getElem_cons_zero, List.setIfInBounds_toArray, List.set_cons_succ, List.set_cons_zero]
              refine wpList_readG (by rfl) (some 161) rfl (.int .i64 0) (by as_aux_lemma => kernel_rfl) ?_
              simp only [Act.put, List.getElem_toArray, List.getElem_cons_succ, List.getElem_cons_zero, List.setIfInBounds_toArray, List.set_cons_succ, List.set_cons_zero]
              refine wpList_readG (by rfl) (some 162) rfl (.bool true) (by as_aux_lemma => kernel_rfl) ?_
              simp only [Act.put, List.getElem_toArray, List.getElem_cons_succ, List.getElem_cons_zero, List.setIfInBounds_toArray, List.set_cons_succ, List.set_cons_zero]
              refine wpList_readG (by rfl) (some 163) rfl (.bool true) (by as_aux_lemma => kernel_rfl) ?_
              simp only [Act.put, List.getElem_toArray, List.getElem_cons_succ, List.getElem_cons_zero, List.setIfInBounds_toArray, List.set_cons_succ, List.set_cons_zero]
              refine wpList_readG (by rfl) (some 164) rfl (.bool true) (by as_aux_lemma => kernel_rfl) ?_
              simp only [Act.put, List.getElem_toArray, List.getElem_cons_succ, List.getElem_cons_zero, List.setIfInBounds_toArray, List.set_cons_succ, List.set_cons_zero]
              refine wpList_readG (by rfl) (some 165) rfl (.int .i64 0) (by as_aux_lemma => kernel_rfl) ?_
              simp only [Act.put, List.getElem_toArray, List.getElem_cons_succ, List.getElem_cons_zero, List.setIfInBounds_toArray, List.set_cons_succ, List.set_cons_zero]
              refine wpList_readG (by rfl) (some 166) rfl (.bool true) (by as_aux_lemma => kernel_rfl) ?_
              simp only [Act.put, List.getElem_toArray, List.getElem_cons_succ, List.getElem_cons_zero, List.setIfInBounds_toArray, List.set_cons_succ, List.set_cons_zero]
              refine wpList_readG (by rfl) (some 167) rfl (.bool true) (by as_aux_lemma => kernel_rfl) ?_
              simp only [Act.put, List.getElem_toArray, List.getElem_cons_succ, List.getElem_cons_zero, List.setIfInBounds_toArray, List.set_cons_succ, List.set_cons_zero]
              refine wpList_readG (by rfl) (some 168) rfl (.bool true) (by as_aux_lemma => kernel_rfl) ?_
              simp only [Act.put, List.getElem_toArray, List.getElem_cons_succ, List.getElem_cons_zero, List.setIfInBounds_toArray, List.set_cons_succ, List.set_cons_zero]
              refine wpList_readG (by rfl) (some 169) rfl (.agg U0) (exec_load rfl (LD0.out _ HQh.out)) ?_
              simp only [Act.put, List.getElem_toArray, List.getElem_cons_succ, List.getElem_cons_zero, List.setIfInBounds_toArray, List.set_cons_succ, List.set_cons_zero]
              refine wpList_readG (by rfl) (some 170) rfl (.agg Va) (exec_load rfl (LVa.out _ (Below.refl _ _))) ?_
              simp only [Act.put, List.getElem_toArray, List.getElem_cons_succ, List.getElem_cons_zero, List.setIfInBounds_toArray, List.set_cons_succ, List.set_cons_zero]
              refine wpList_callG (by rfl) (some 171) rfl 17 #[.agg U0, .agg Va] (by as_aux_lemma => kernel_rfl) (HSTa.out _ (Below.refl _ _)) ?_
              rintro en wSa ⟨rfl, hbSa⟩
              refine ⟨_, rfl, ?_⟩
              simp only [Act.put, List.getElem_toArray, List.getElem_cons_succ, List.getElem_cons_zero, List.setIfInBounds_toArray, List.set_cons_succ, List.set_cons_zero]
              have HSa := hid (hbSa)
              clear hbSa
              refine wpList_readG (by rfl) (some 172) rfl (.bool true) (by as_aux_lemma => kernel_rfl) ?_
              simp only [Act.put, List.getElem_toArray, List.getElem_cons_succ, List.getElem_cons_zero, List.setIfInBounds_toArray, List.set_cons_succ, List.set_cons_zero]
              refine wpList_readG (by rfl) (some 173) rfl (.bool true) (by as_aux_lemma => kernel_rfl) ?_
              simp only [Act.put, List.getElem_toArray, List.getElem_cons_succ, List.getElem_cons_zero, List.setIfInBounds_toArray, List.set_cons_succ, List.set_cons_zero]
              refine wpList_readG (by rfl) (some 174) rfl (.agg U1) (exec_load rfl (LD1.out _ (HQh.out.trans (HSa.out.mono HQh.out.size)))) ?_
              simp only [Act.put, List.getElem_toArray, List.getElem_cons_succ, List.getElem_cons_zero, List.setIfInBounds_toArray, List.set_cons_succ, List.set_cons_zero]
              refine wpList_readG (by rfl) (some 175) rfl (.agg Vb) (exec_load rfl (LVb.out _ HSa.out)) ?_
              simp only [Act.put, List.getElem_toArray, List.getElem_cons_succ, List.getElem_cons_zero, List.setIfInBounds_toArray, List.set_cons_succ, List.set_cons_zero]
              refine wpList_callG (by rfl) (some 176) rfl 18 #[.agg U1, .agg Vb] (by as_aux_lemma => kernel_rfl) (HSTb.out _ HSa.out) ?_
              rintro en wSb ⟨rfl, hbSb⟩
              refine ⟨_, rfl, ?_⟩
              simp only [Act.put, List.getElem_toArray, List.getElem_cons_succ, List.getElem_cons_zero, List.setIfInBounds_toArray, List.set_cons_succ, List.set_cons_zero]
              have HSb := hid (HSa.out.trans (hbSb.mono HSa.out.size))
              clear hbSb
              refine wpList_readG (by rfl) (some 177) rfl (.bool true) (by as_aux_lemma => kernel_rfl) ?_
              simp only [Act.put, List.getElem_toArray, List.getElem_cons_succ, List.getElem_cons_zero, List.setIfInBounds_toArray, List.set_cons_succ, List.set_cons_zero]
              refine wpList_readG (by rfl) (some 178) rfl (.bool true) (by as_aux_lemma => kernel_rfl) ?_
              simp only [Act.put, List.getElem_toArray, List.getElem_cons_succ, List.getElem_cons_zero, List.setIfInBounds_toArray, List.set_cons_succ, List.set_cons_zero]
              refine wpList_readG (by rfl) (some 179) rfl (.agg U2) (exec_load rfl (LD2.out _ (HQh.out.trans (HSb.out.mono HQh.out.size)))) ?_
              simp only [Act.put, List.getElem_toArray, List.getElem_cons_succ, List.getElem_cons_zero, List.setIfInBounds_toArray, List.set_cons_succ, List.set_cons_zero]
              refine wpList_readG (by rfl) (some 180) rfl (.agg Vc) (exec_load rfl (LVc.out _ HSb.out)) ?_
              simp only [Act.put, List.getElem_toArray, List.getElem_cons_succ, List.getElem_cons_zero, List.setIfInBounds_toArray, List.set_cons_succ, List.set_cons_zero]
              refine wpList_callG (by rfl) (some 181) rfl 19 #[.agg U2, .agg Vc] (by as_aux_lemma => kernel_rfl) (HSTc.out _ HSb.out) ?_
              rintro en wSc ⟨rfl, hbSc⟩
              refine ⟨_, rfl, ?_⟩
              simp only [Act.put, List.getElem_toArray, List.getElem_cons_succ, List.getElem_cons_zero, List.setIfInBounds_toArray, List.set_cons_succ, List.set_cons_zero]
              have HSc := hid (HSb.out.trans (hbSc.mono HSb.out.size))
              clear hbSc
              refine wpList_readG (by rfl) (some 182) rfl (.bool true) (by as_aux_lemma => kernel_rfl) ?_
              simp only [Act.put, List.getElem_toArray, List.getElem_cons_succ, List.getElem_cons_zero, List.setIfInBounds_toArray, List.set_cons_succ, List.set_cons_zero]
              refine wpList_readG (by rfl) (some 183) rfl (.bool true) (by as_aux_lemma => kernel_rfl) ?_
              simp only [Act.put, List.getElem_toArray, List.getElem_cons_succ, List.getElem_cons_zero, List.setIfInBounds_toArray, List.set_cons_succ, List.set_cons_zero]
              refine wpList_readG (by rfl) (some 184) rfl (.agg U3) (exec_load rfl (LD3.out _ (HQh.out.trans (HSc.out.mono HQh.out.size)))) ?_
              simp only [Act.put, List.getElem_toArray, List.getElem_cons_succ, List.getElem_cons_zero, List.setIfInBounds_toArray, List.set_cons_succ, List.set_cons_zero]
              refine wpList_readG (by rfl) (some 185) rfl (.agg Vd) (exec_load rfl (LVd.out _ HSc.out)) ?_
              simp only [Act.put, List.getElem_toArray, List.getElem_cons_succ, List.getElem_cons_zero, List.setIfInBounds_toArray, List.set_cons_succ, List.set_cons_zero]
              refine wpList_callG (by rfl) (some 186) rfl 21 #[.agg U3, .agg Vd] (by as_aux_lemma => kernel_rfl) (HSTd.out _ HSc.out) ?_
              rintro en wSd ⟨rfl, hbSd⟩
              refine ⟨_, rfl, ?_⟩
              simp only [Act.put, List.getElem_toArray, List.getElem_cons_succ, List.getElem_cons_zero, List.setIfInBounds_toArray, List.set_cons_succ, List.set_cons_zero]
              have HSd := hid (HSc.out.trans (hbSd.mono HSc.out.size))
              clear hbSd
              refine wpList_readG (by rfl) (some 187) rfl (.bool true) (by as_aux_lemma => kernel_rfl) ?_
              simp only [Act.put, List.getElem_toArray, List.getElem_cons_succ, List.getElem_cons_zero, List.setIfInBounds_toArray, List.set_cons_succ, List.set_cons_zero]
              refine wpList_readG (by rfl) (some 188) rfl (.bool true) (by as_aux_lemma => kernel_rfl) ?_
              simp only [Act.put, List.getElem_toArray, List.getElem_cons_succ, List.getElem_cons_zero, List.setIfInBounds_toArray, List.set_cons_succ, List.set_cons_zero]
              refine wpList_readG (by rfl) (some 189) rfl (.int .i64 8) (by as_aux_lemma => kernel_rfl) ?_
              simp only [Act.put, List.getElem_toArray, List.getElem_cons_succ, List.getElem_cons_zero, List.setIfInBounds_toArray, List.set_cons_succ, List.set_cons_zero]
              refine wpList_readG (by rfl) (some 190) rfl (.bool true) (by as_aux_lemma => kernel_rfl) ?_
              simp only [Act.put, List.getElem_toArray, List.getElem_cons_succ, List.getElem_cons_zero, List.setIfInBounds_toArray, List.set_cons_succ, List.set_cons_zero]
              refine wpList_readG (by rfl) (some 191) rfl (.bool true) (by as_aux_lemma => kernel_rfl) ?_
              simp only [Act.put, List.getElem_toArray, List.getElem_cons_succ, List.getElem_cons_zero, List.setIfInBounds_toArray, List.set_cons_succ, List.set_cons_zero]
              refine wpList_readG (by rfl) (some 192) rfl (.bool true) (by as_aux_lemma => kernel_rfl) ?_
              simp only [Act.put, List.getElem_toArray, List.getElem_cons_succ, List.getElem_cons_zero, List.setIfInBounds_toArray, List.set_cons_succ, List.set_cons_zero]
              refine wpList_readG (by rfl) (some 193) rfl (.int .i64 8) (by as_aux_lemma => kernel_rfl) ?_
              simp only [Act.put, List.getElem_toArray, List.getElem_cons_succ, List.getElem_cons_zero, List.setIfInBounds_toArray, List.set_cons_succ, List.set_cons_zero]
              refine wpList_readG (by rfl) (some 194) rfl (.bool true) (by as_aux_lemma => kernel_rfl) ?_
              simp only [Act.put, List.getElem_toArray, List.getElem_cons_succ, List.getElem_cons_zero, List.setIfInBounds_toArray, List.set_cons_succ, List.set_cons_zero]
              refine wpList_readG (by rfl) (some 195) rfl (.bool true) (by as_aux_lemma => kernel_rfl) ?_
              simp only [Act.put, List.getElem_toArray, List.getElem_cons_succ, List.getElem_cons_zero, List.setIfInBounds_toArray, List.set_cons_succ, List.set_cons_zero]
              go_wp2_with fail
              go_ret
              exact ⟨rfl, HBX.out.trans (HSd.out.mono HBX.out.size)⟩
end wireBackUpto
end Go.Proofs.YtdfccaehoodjhaaGreat

namespace Go.Proofs.YtdfccaehoodjhaaGreat.wireBackUpto
open Go.ChangeShapes Go.WideShapes Go.ChangeAt Go.RowKit
open Go.ChangeMaps (open_string shut_string)
set_option linter.unusedVariables false

theorem own : ownKnob Tryz.prog.godebug = none := by kernel_rfl
theorem laidOut : laidOutB Tryz.prog = true := by kernel_rfl

set_option maxRecDepth 100000 in
theorem contract (H : Type) (enc : TypeId × Value → H) (W : World) (base : Nat) (args : Array Value) (ds gs : List (DataW H)) (before : List MemPlace)
    (hval0 : ∀ (j : Nat) t v, Tryz.f4.params[j]? = some t → args[j]? = some v → Value.okWide Tryz.prog W .any base t v)
    (hW : DataW.Whole enc Tryz.prog Tryz.f4.params.toList Rows.wireBackSpec.vars false W args.toList ds gs before) (hk : Rows.uptoSmall H (ds ++ gs) = true) :
    Calls Tryz.prog 4 args W fun e W' => ∃ v, e = .returned v ∧ Rows.wireBackSpec.post enc Tryz.prog Tryz.f4 false true false false W args v W' := by
  have hval : ∀ (j : Nat) t v, Tryz.f4.params[j]? = some t → args[j]? = some v → Value.okWide Tryz.prog W .any base t v := hval0
  have hW' := hW
  obtain ⟨p, q, hA0, hV, rfl, hfz, hnd⟩ := hW
  have hA : DataW.TrodAll enc Tryz.prog W 0 (fun _ => true) true Tryz.f4.params.toList args.toList ds p := hA0
  rw [Tryz.params4] at hA hval
  obtain ⟨v0, vs0, d0, ds0, p0, q0, hargs, rfl, rfl, h0, r0⟩ := trodAll_cons hA
  obtain ⟨v1, vs1, d1, ds1, p1, q1, rfl, rfl, rfl, h1, r1⟩ := trodAll_cons r0
  obtain ⟨v2, vs2, d2, ds2, p2, q2, rfl, rfl, rfl, h2, r2⟩ := trodAll_cons r1
  obtain ⟨v3, vs3, d3, ds3, p3, q3, rfl, rfl, rfl, h3, r3⟩ := trodAll_cons r2
  obtain ⟨v4, vs4, d4, ds4, p4, q4, rfl, rfl, rfl, h4, r4⟩ := trodAll_cons r3
  obtain ⟨rfl, rfl, rfl⟩ := trodAll_nil r4
  obtain rfl : args = #[v0, v1, v2, v3, v4] := by cases args; simp_all
  obtain ⟨rfl, rfl⟩ := trodVars_none hV
  have k0 := h0
  have lt0 : ∀ x ∈ p0, x.block < W.heap.size := by obtain ⟨m, hm⟩ := k0; exact DataW.trod_lt m _ _ _ hm
  have k1 := h1
  have lt1 : ∀ x ∈ p1, x.block < W.heap.size := by obtain ⟨m, hm⟩ := k1; exact DataW.trod_lt m _ _ _ hm
  have k2 := h2
  have lt2 : ∀ x ∈ p2, x.block < W.heap.size := by obtain ⟨m, hm⟩ := k2; exact DataW.trod_lt m _ _ _ hm
  have k3 := h3
  have lt3 : ∀ x ∈ p3, x.block < W.heap.size := by obtain ⟨m, hm⟩ := k3; exact DataW.trod_lt m _ _ _ hm
  obtain ⟨a4, rfl, rfl, rfl, w4⟩ := open_int Tryz.underlying3 (hval 4 3 v4 rfl rfl) h4
  clear hA0 hval0
  simp only [List.append_nil] at hk
  refine (walk v0 v1 v2 v3 a4 W (hval 0 27 v0 rfl rfl) h0 (hval 1 43 v1 rfl rfl) h1 (hval 2 55 v2 rfl rfl) h2 (hval 3 62 v3 rfl rfl) h3 w4 hk).mono fun e W' ⟨he, bel⟩ => ?_
  subst he
  exact ⟨_, rfl, _, _, _, [], _, [], hW', trodAll_mk1 (shut_bool Tryz.underlying4 _), (trodAll_cons_mk (Below.trod laidOut (by kernel_rfl) (of_decide_eq_true (by kernel_rfl)) k0 bel lt0) (trodAll_cons_mk (Below.trod laidOut (by kernel_rfl) (of_decide_eq_true (by kernel_rfl)) k1 bel lt1) (trodAll_cons_mk (Below.trod laidOut (by kernel_rfl) (of_decide_eq_true (by kernel_rfl)) k2 bel lt2) (trodAll_cons_mk (Below.trod laidOut (by kernel_rfl) (of_decide_eq_true (by kernel_rfl)) k3 bel lt3) (trodAll_cons_mk (shut_int Tryz.underlying3 w4) trodAll_mk0))))), rfl, bel.frame _, fun h => by cases h⟩

set_option maxRecDepth 100000 in
theorem lifted (os : Os) (started : os.Started) (H : Type) (enc : TypeId × Value → H) (F : Stop.Interp) :
    ReturnsInHanded {} Tryz.checked os 4 .any ((Rows.OpenSpec.upto Rows.wireBackSpec).pre6 enc Tryz.prog Tryz.f4 Rows.wireBackUptoRow.domain false) (((Rows.OpenSpec.upto Rows.wireBackSpec).at F).post enc Tryz.prog Tryz.f4 false true false false) := by
  refine returnsInHanded_of_cond (C := Tryz.checked) (s := Rows.OpenSpec.upto Rows.wireBackSpec) (k := Rows.uptoSmall) rfl own started (by kernel_rfl) Tryz.func4
    (OpenSpec.witness (enc := enc) (C := Tryz.checked) (s := Rows.OpenSpec.upto Rows.wireBackSpec) (k := Rows.uptoSmall) rfl false ⟨#[], #[.agg #[.int .u64 0, .int .u64 0, .slice none 0 0], .agg #[.int .i64 0, .int .i64 0, .int .u64 0, .int .i64 0, .int .i64 0, .int .i64 0, .bool false, .slice none 0 0, .slice none 0 0, .slice none 0 0, .slice none 0 0, .slice none 0 0, .slice none 0 0, .int .i64 0, .string .empty, .slice none 0 0, .slice none 0 0, .int .i64 0, .int .i64 0, .string .empty, .slice none 0 0, .bool false, .int .i64 0, .bool false, .string .empty], .agg #[.int .i64 0, .int .u64 0, .int .i64 0, .bool false, .slice none 0 0, .slice none 0 0, .int .i64 0, .int .i64 0, .slice none 0 0, .slice none 0 0, .int .i64 0, .int .i64 0, .slice none 0 0, .int .i64 0, .slice none 0 0], .agg #[.int .i64 0, .slice none 0 0, .int .i64 0, .string .empty, .slice none 0 0, .slice none 0 0, .int .i64 0, .int .i64 0, .string .empty, .slice none 0 0, .bool false, .int .i64 0, .bool false, .string .empty, .int .i64 0, .slice none 0 0], .int .i64 0], []⟩ 8 (by kernel_rfl) (by kernel_rfl) (by kernel_rfl)
      (x := ([.agg [.lit (.int .u64 0), .lit (.int .u64 0), .nil], .agg [.lit (.int .i64 0), .lit (.int .i64 0), .lit (.int .u64 0), .lit (.int .i64 0), .lit (.int .i64 0), .lit (.int .i64 0), .lit (.bool false), .nil, .agg [.nil, .nil], .nil, .nil, .nil, .agg [.lit (.int .i64 0), .lit (.string []), .nil, .nil], .agg [.lit (.int .i64 0), .lit (.int .i64 0), .lit (.string []), .nil, .lit (.bool false), .lit (.int .i64 0), .lit (.bool false)], .lit (.string [])], .agg [.lit (.int .i64 0), .lit (.int .u64 0), .lit (.int .i64 0), .lit (.bool false), .nil, .nil, .agg [.lit (.int .i64 0), .lit (.int .i64 0), .nil, .nil], .agg [.lit (.int .i64 0), .lit (.int .i64 0), .nil, .lit (.int .i64 0), .nil]], .agg [.lit (.int .i64 0), .nil, .agg [.lit (.int .i64 0), .lit (.string []), .nil, .nil], .agg [.lit (.int .i64 0), .lit (.int .i64 0), .lit (.string []), .nil, .lit (.bool false), .lit (.int .i64 0), .lit (.bool false)], .lit (.string []), .lit (.int .i64 0), .nil], .lit (.int .i64 0)], [], [])) (by kernel_rfl) rfl (by kernel_rfl)) ?_
  intro W base args ds gs before hval hW _ hk _
  exact contract H enc W base args ds gs before hval hW hk

theorem over : Rows.wireBackUptoRow.holds Tryz.pinned (Rows.OpenSpec.upto Rows.wireBackSpec) :=
  OpenClaim.holds_of_cond 4 Tryz.f4 rfl rfl rfl rfl rfl rfl rfl ⟨rfl, rfl, rfl, rfl, rfl⟩ rfl rfl rfl rfl rfl (by kernel_rfl) Tryz.func4 (by kernel_rfl)
    (of_decide_eq_true (by kernel_rfl)) (by unfold Func.isWrapper; first | (rw [if_pos (by decide +kernel)]; kernel_rfl) | (rw [if_neg (by decide +kernel)]; exact ⟨rfl, rfl⟩))
    (fun os started H enc _ F => lifted os started H enc F)

/-- THE STATEMENT. -/
theorem proved : Rows.WireBackUptoSaid := over
end Go.Proofs.YtdfccaehoodjhaaGreat.wireBackUpto

