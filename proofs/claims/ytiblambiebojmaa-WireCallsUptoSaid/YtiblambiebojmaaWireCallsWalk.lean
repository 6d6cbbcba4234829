/-
  THE LAW WireCalls: its walk.
-/
import Derived.Test.YtiblambiebojmaaWG1
import Derived.Test.YtiblambiebojmaaWG2
import Derived.Test.YtiblambiebojmaaWG3
import Derived.Test.YtiblambiebojmaaWG4
import Derived.Test.YtiblambiebojmaaWG5
import Derived.Test.YtiblambiebojmaaWG6
import Derived.Test.YtiblambiebojmaaWG7
set_option linter.unusedVariables false
set_option linter.unusedSimpArgs false
set_option maxRecDepth 100000
namespace Go.Proofs.Ytiblambiebojmaa
open Go.RowKit Go.Deep Go.ChangeShapes Go.WideShapes Go.ChangeAt
namespace wireCallsUpto

set_option maxHeartbeats 16000000 in
theorem walk {H : Type} {enc : TypeId × Value → H} (v0 v1 v2 : Value) (W : World) {base : Nat} {d0 d1 d2 : DataW H} {p0 p1 p2 : List MemPlace} (hw0 : Value.okWide Try.prog W .any base 25 v0) (h0 : DataW.Trod enc Try.prog W 0 (fun _ => true) true 25 v0 d0 p0) (hw1 : Value.okWide Try.prog W .any base 38 v1) (h1 : DataW.Trod enc Try.prog W 0 (fun _ => true) true 38 v1 d1 p1) (hw2 : Value.okWide Try.prog W .any base 49 v2) (h2 : DataW.Trod enc Try.prog W 0 (fun _ => true) true 49 v2 d2 p2) (hk : Rows.uptoSmall H [d0, d1, d2] = true) :
    Calls Try.prog 3 #[v0, v1, v2] W (fun e w' => e = .returned (.bool true) ∧ Below W.heap.size W w') := by
  obtain ⟨cs0, bs0, rfl, he0, hl0⟩ := struct_in 20 sCall 25 Try.underlying25 (by kernel_rfl) hw0 h0 (bulk_at hk (by simp))
  obtain ⟨v0_0, v0_1, v0_2, b0_0, b0_1, b0_2, rfl, rfl, e0_0, e0_1, e0_2⟩ := Call_cells he0
  obtain ⟨cs1, bs1, rfl, he1, hl1⟩ := struct_in 20 sCommand 38 Try.underlying38 (by kernel_rfl) hw1 h1 (bulk_at hk (by simp))
  obtain ⟨v1_0, v1_1, v1_2, v1_3, v1_4, v1_5, v1_6, v1_7, v1_8, v1_9, v1_10, v1_11, v1_12, v1_13, v1_14, v1_15, v1_16, v1_17, v1_18, v1_19, v1_20, v1_21, v1_22, v1_23, v1_24, b1_0, b1_1, b1_2, b1_3, b1_4, b1_5, b1_6, b1_7, b1_8, b1_9, b1_10, b1_11, b1_12, b1_13, b1_14, b1_15, b1_16, b1_17, b1_18, b1_19, b1_20, b1_21, b1_22, b1_23, b1_24, rfl, rfl, e1_0, e1_1, e1_2, e1_3, e1_4, e1_5, e1_6, e1_7, e1_8, e1_9, e1_10, e1_11, e1_12, e1_13, e1_14, e1_15, e1_16, e1_17, e1_18, e1_19, e1_20, e1_21, e1_22, e1_23, e1_24⟩ := Command_cells he1
  obtain ⟨cs2, bs2, rfl, he2, hl2⟩ := struct_in 20 sReply 49 Try.underlying49 (by kernel_rfl) hw2 h2 (bulk_at hk (by simp))
  obtain ⟨v2_0, v2_1, v2_2, v2_3, v2_4, v2_5, v2_6, v2_7, v2_8, v2_9, v2_10, v2_11, v2_12, v2_13, v2_14, b2_0, b2_1, b2_2, b2_3, b2_4, b2_5, b2_6, b2_7, b2_8, b2_9, b2_10, b2_11, b2_12, b2_13, b2_14, rfl, rfl, e2_0, e2_1, e2_2, e2_3, e2_4, e2_5, e2_6, e2_7, e2_8, e2_9, e2_10, e2_11, e2_12, e2_13, e2_14⟩ := Reply_cells he2
  obtain ⟨a2_4, n2_4, c2_4, rfl⟩ := form_list e2_4
  obtain ⟨hc2_4, hn2_4⟩ := list_len e2_4
  obtain ⟨a2_8, n2_8, c2_8, rfl⟩ := form_list e2_8
  obtain ⟨hc2_8, hn2_8⟩ := list_len e2_8
  obtain ⟨a2_9, n2_9, c2_9, rfl⟩ := form_list e2_9
  obtain ⟨hc2_9, hn2_9⟩ := list_len e2_9
  obtain ⟨a2_5, n2_5, c2_5, rfl⟩ := form_list e2_5
  obtain ⟨hc2_5, hn2_5⟩ := list_len e2_5
  obtain ⟨a2_12, n2_12, c2_12, rfl⟩ := form_list e2_12
  obtain ⟨hc2_12, hn2_12⟩ := list_len e2_12
  obtain ⟨U0, hU0⟩ : ∃ U : Value, U = .agg #[v0_0, v0_1, v0_2] := ⟨_, rfl⟩
  obtain ⟨U1, hU1⟩ : ∃ U : Value, U = .agg #[v1_0, v1_1, v1_2, v1_3, v1_4, v1_5, v1_6, v1_7, v1_8, v1_9, v1_10, v1_11, v1_12, v1_13, v1_14, v1_15, v1_16, v1_17, v1_18, v1_19, v1_20, v1_21, v1_22, v1_23, v1_24] := ⟨_, rfl⟩
  obtain ⟨U2, hU2⟩ : ∃ U : Value, U = .agg #[v2_0, v2_1, v2_2, v2_3, (.slice a2_4 n2_4 c2_4), (.slice a2_5 n2_5 c2_5), v2_6, v2_7, (.slice a2_8 n2_8 c2_8), (.slice a2_9 n2_9 c2_9), v2_10, v2_11, (.slice a2_12 n2_12 c2_12), v2_13, v2_14] := ⟨_, rfl⟩
  clear hk hw0 h0 he0 hw1 h1 he1 hw2 h2 he2
  obtain ⟨B0, hB0⟩ : ∃ B, B = b0_0 ++ (b0_1 ++ b0_2) := ⟨_, rfl⟩
  have CW0 : Hid (∀ V, Below W.heap.size W V → Calls Try.prog 9 #[U0] V (Gives 5 V B0)) := hid fun V hV => by rw [hU0, hB0]; exact wtopCall_any (Enc.old hV _ e0_0) (Enc.old hV _ e0_1) (Enc.old hV _ e0_2) (by omega)
  have CR0 : Hid (∀ V, Below W.heap.size W V → Calls Try.prog 10 #[U0] V (Gives 5 V B0)) := hid fun V hV => by rw [hU0, hB0]; exact rtopCall_any (Enc.old hV _ e0_0) (Enc.old hV _ e0_1) (Enc.old hV _ e0_2) (by omega)
  clear hB0 hl0 e0_0 e0_1 e0_2
  obtain ⟨B1, hB1⟩ : ∃ B, B = b1_0 ++ (b1_1 ++ (b1_2 ++ (b1_3 ++ (b1_4 ++ (b1_5 ++ (b1_6 ++ (b1_7 ++ (b1_8 ++ (b1_9 ++ (b1_10 ++ (b1_11 ++ (b1_12 ++ (b1_13 ++ (b1_14 ++ (b1_15 ++ (b1_16 ++ (b1_17 ++ (b1_18 ++ (b1_19 ++ (b1_20 ++ (b1_21 ++ (b1_22 ++ (b1_23 ++ b1_24))))))))))))))))))))))) := ⟨_, rfl⟩
  have CW1 : Hid (∀ V, Below W.heap.size W V → Calls Try.prog 11 #[U1] V (Gives 5 V B1)) := hid fun V hV => by rw [hU1, hB1]; exact wtopCommand_any (Enc.old hV _ e1_0) (Enc.old hV _ e1_1) (Enc.old hV _ e1_2) (Enc.old hV _ e1_3) (Enc.old hV _ e1_4) (Enc.old hV _ e1_5) (Enc.old hV _ e1_6) (Enc.old hV _ e1_7) (Enc.old hV _ e1_8) (Enc.old hV _ e1_9) (Enc.old hV _ e1_10) (Enc.old hV _ e1_11) (Enc.old hV _ e1_12) (Enc.old hV _ e1_13) (Enc.old hV _ e1_14) (Enc.old hV _ e1_15) (Enc.old hV _ e1_16) (Enc.old hV _ e1_17) (Enc.old hV _ e1_18) (Enc.old hV _ e1_19) (Enc.old hV _ e1_20) (Enc.old hV _ e1_21) (Enc.old hV _ e1_22) (Enc.old hV _ e1_23) (Enc.old hV _ e1_24) (by omega)
  have CR1 : Hid (∀ V, Below W.heap.size W V → Calls Try.prog 12 #[U1] V (Gives 5 V B1)) := hid fun V hV => by rw [hU1, hB1]; exact rtopCommand_any (Enc.old hV _ e1_0) (Enc.old hV _ e1_1) (Enc.old hV _ e1_2) (Enc.old hV _ e1_3) (Enc.old hV _ e1_4) (Enc.old hV _ e1_5) (Enc.old hV _ e1_6) (Enc.old hV _ e1_7) (Enc.old hV _ e1_8) (Enc.old hV _ e1_9) (Enc.old hV _ e1_10) (Enc.old hV _ e1_11) (Enc.old hV _ e1_12) (Enc.old hV _ e1_13) (Enc.old hV _ e1_14) (Enc.old hV _ e1_15) (Enc.old hV _ e1_16) (Enc.old hV _ e1_17) (Enc.old hV _ e1_18) (Enc.old hV _ e1_19) (Enc.old hV _ e1_20) (Enc.old hV _ e1_21) (Enc.old hV _ e1_22) (Enc.old hV _ e1_23) (Enc.old hV _ e1_24) (by omega)
  obtain ⟨qc, hqc⟩ := command_any e1_0 e1_1 e1_2 e1_3 e1_4 e1_5 e1_6 e1_7 e1_8 e1_9 e1_10 e1_11 e1_12 e1_13 e1_14 e1_15 e1_16 e1_17 e1_18 e1_19 e1_20 e1_21 e1_22 e1_23 e1_24
  have CQ : Hid (∀ w, Calls Try.prog 6 #[U1] w (fun e w' => e = .returned (.bool qc) ∧ Below w.heap.size w w')) := hid (by rw [hU1]; exact hqc)
  clear hqc
  clear hB1 hl1 e1_0 e1_1 e1_2 e1_3 e1_4 e1_5 e1_6 e1_7 e1_8 e1_9 e1_10 e1_11 e1_12 e1_13 e1_14 e1_15 e1_16 e1_17 e1_18 e1_19 e1_20 e1_21 e1_22 e1_23 e1_24
  obtain ⟨B2, hB2⟩ : ∃ B, B = b2_0 ++ (b2_1 ++ (b2_2 ++ (b2_3 ++ (b2_4 ++ (b2_5 ++ (b2_6 ++ (b2_7 ++ (b2_8 ++ (b2_9 ++ (b2_10 ++ (b2_11 ++ (b2_12 ++ (b2_13 ++ b2_14))))))))))))) := ⟨_, rfl⟩
  have CW2 : Hid (∀ V, Below W.heap.size W V → Calls Try.prog 13 #[U2] V (Gives 5 V B2)) := hid fun V hV => by rw [hU2, hB2]; exact wtopReply_any (Enc.old hV _ e2_0) (Enc.old hV _ e2_1) (Enc.old hV _ e2_2) (Enc.old hV _ e2_3) (Enc.old hV _ e2_4) (Enc.old hV _ e2_5) (Enc.old hV _ e2_6) (Enc.old hV _ e2_7) (Enc.old hV _ e2_8) (Enc.old hV _ e2_9) (Enc.old hV _ e2_10) (Enc.old hV _ e2_11) (Enc.old hV _ e2_12) (Enc.old hV _ e2_13) (Enc.old hV _ e2_14) (by omega)
  have CR2 : Hid (∀ V, Below W.heap.size W V → Calls Try.prog 14 #[U2] V (Gives 5 V B2)) := hid fun V hV => by rw [hU2, hB2]; exact rtopReply_any (Enc.old hV _ e2_0) (Enc.old hV _ e2_1) (Enc.old hV _ e2_2) (Enc.old hV _ e2_3) (Enc.old hV _ e2_4) (Enc.old hV _ e2_5) (Enc.old hV _ e2_6) (Enc.old hV _ e2_7) (Enc.old hV _ e2_8) (Enc.old hV _ e2_9) (Enc.old hV _ e2_10) (Enc.old hV _ e2_11) (Enc.old hV _ e2_12) (Enc.old hV _ e2_13) (Enc.old hV _ e2_14) (by omega)
  clear hB2 hl2 e2_0 e2_1 e2_2 e2_3 e2_4 e2_5 e2_6 e2_7 e2_8 e2_9 e2_10 e2_11 e2_12 e2_13 e2_14
  have hb0 : Below W.heap.size W (((W.alloc (.cells #[v0_0, v0_1, v0_2] 25)).alloc (.cells #[v1_0, v1_1, v1_2, v1_3, v1_4, v1_5, v1_6, v1_7, v1_8, v1_9, v1_10, v1_11, v1_12, v1_13, v1_14, v1_15, v1_16, v1_17, v1_18, v1_19, v1_20, v1_21, v1_22, v1_23, v1_24] 38)).alloc (.cells #[v2_0, v2_1, v2_2, v2_3, (.slice a2_4 n2_4 c2_4), (.slice a2_5 n2_5 c2_5), v2_6, v2_7, (.slice a2_8 n2_8 c2_8), (.slice a2_9 n2_9 c2_9), v2_10, v2_11, (.slice a2_12 n2_12 c2_12), v2_13, v2_14] 49)) := (((Below.refl _ _).alloc (Nat.le_refl _) _).alloc (by simp) _).alloc (by simp; omega) _
  have hz0 := (Below.heap_alloc ((W.alloc (.cells #[v0_0, v0_1, v0_2] 25)).alloc (.cells #[v1_0, v1_1, v1_2, v1_3, v1_4, v1_5, v1_6, v1_7, v1_8, v1_9, v1_10, v1_11, v1_12, v1_13, v1_14, v1_15, v1_16, v1_17, v1_18, v1_19, v1_20, v1_21, v1_22, v1_23, v1_24] 38)) (.cells #[v2_0, v2_1, v2_2, v2_3, (.slice a2_4 n2_4 c2_4), (.slice a2_5 n2_5 c2_5), v2_6, v2_7, (.slice a2_8 n2_8 c2_8), (.slice a2_9 n2_9 c2_9), v2_10, v2_11, (.slice a2_12 n2_12 c2_12), v2_13, v2_14] 49) W.heap.size (by simp; omega)).trans ((Below.heap_alloc (W.alloc (.cells #[v0_0, v0_1, v0_2] 25)) (.cells #[v1_0, v1_1, v1_2, v1_3, v1_4, v1_5, v1_6, v1_7, v1_8, v1_9, v1_10, v1_11, v1_12, v1_13, v1_14, v1_15, v1_16, v1_17, v1_18, v1_19, v1_20, v1_21, v1_22, v1_23, v1_24] 38) W.heap.size (by simp)).trans (heap_alloc_new W (.cells #[v0_0, v0_1, v0_2] 25)))
  have hz1 := (Below.heap_alloc ((W.alloc (.cells #[v0_0, v0_1, v0_2] 25)).alloc (.cells #[v1_0, v1_1, v1_2, v1_3, v1_4, v1_5, v1_6, v1_7, v1_8, v1_9, v1_10, v1_11, v1_12, v1_13, v1_14, v1_15, v1_16, v1_17, v1_18, v1_19, v1_20, v1_21, v1_22, v1_23, v1_24] 38)) (.cells #[v2_0, v2_1, v2_2, v2_3, (.slice a2_4 n2_4 c2_4), (.slice a2_5 n2_5 c2_5), v2_6, v2_7, (.slice a2_8 n2_8 c2_8), (.slice a2_9 n2_9 c2_9), v2_10, v2_11, (.slice a2_12 n2_12 c2_12), v2_13, v2_14] 49) (W.heap.size + 1) (by simp)).trans (heap_alloc2_new W (.cells #[v0_0, v0_1, v0_2] 25) (.cells #[v1_0, v1_1, v1_2, v1_3, v1_4, v1_5, v1_6, v1_7, v1_8, v1_9, v1_10, v1_11, v1_12, v1_13, v1_14, v1_15, v1_16, v1_17, v1_18, v1_19, v1_20, v1_21, v1_22, v1_23, v1_24] 38))
  have hz2 : (((W.alloc (.cells #[v0_0, v0_1, v0_2] 25)).alloc (.cells #[v1_0, v1_1, v1_2, v1_3, v1_4, v1_5, v1_6, v1_7, v1_8, v1_9, v1_10, v1_11, v1_12, v1_13, v1_14, v1_15, v1_16, v1_17, v1_18, v1_19, v1_20, v1_21, v1_22, v1_23, v1_24] 38)).alloc (.cells #[v2_0, v2_1, v2_2, v2_3, (.slice a2_4 n2_4 c2_4), (.slice a2_5 n2_5 c2_5), v2_6, v2_7, (.slice a2_8 n2_8 c2_8), (.slice a2_9 n2_9 c2_9), v2_10, v2_11, (.slice a2_12 n2_12 c2_12), v2_13, v2_14] 49)).heap[W.heap.size + 2]? = some (.cells #[v2_0, v2_1, v2_2, v2_3, (.slice a2_4 n2_4 c2_4), (.slice a2_5 n2_5 c2_5), v2_6, v2_7, (.slice a2_8 n2_8 c2_8), (.slice a2_9 n2_9 c2_9), v2_10, v2_11, (.slice a2_12 n2_12 c2_12), v2_13, v2_14] 49 (0, 0)) := by have := heap_alloc_new ((W.alloc (.cells #[v0_0, v0_1, v0_2] 25)).alloc (.cells #[v1_0, v1_1, v1_2, v1_3, v1_4, v1_5, v1_6, v1_7, v1_8, v1_9, v1_10, v1_11, v1_12, v1_13, v1_14, v1_15, v1_16, v1_17, v1_18, v1_19, v1_20, v1_21, v1_22, v1_23, v1_24] 38)) (.cells #[v2_0, v2_1, v2_2, v2_3, (.slice a2_4 n2_4 c2_4), (.slice a2_5 n2_5 c2_5), v2_6, v2_7, (.slice a2_8 n2_8 c2_8), (.slice a2_9 n2_9 c2_9), v2_10, v2_11, (.slice a2_12 n2_12 c2_12), v2_13, v2_14] 49); rw [show ((W.alloc (.cells #[v0_0, v0_1, v0_2] 25)).alloc (.cells #[v1_0, v1_1, v1_2, v1_3, v1_4, v1_5, v1_6, v1_7, v1_8, v1_9, v1_10, v1_11, v1_12, v1_13, v1_14, v1_15, v1_16, v1_17, v1_18, v1_19, v1_20, v1_21, v1_22, v1_23, v1_24] 38)).heap.size = W.heap.size + 2 from by simp] at this; exact this
  have HZ0 : Hid (∀ V, Below (((W.alloc (.cells #[v0_0, v0_1, v0_2] 25)).alloc (.cells #[v1_0, v1_1, v1_2, v1_3, v1_4, v1_5, v1_6, v1_7, v1_8, v1_9, v1_10, v1_11, v1_12, v1_13, v1_14, v1_15, v1_16, v1_17, v1_18, v1_19, v1_20, v1_21, v1_22, v1_23, v1_24] 38)).alloc (.cells #[v2_0, v2_1, v2_2, v2_3, (.slice a2_4 n2_4 c2_4), (.slice a2_5 n2_5 c2_5), v2_6, v2_7, (.slice a2_8 n2_8 c2_8), (.slice a2_9 n2_9 c2_9), v2_10, v2_11, (.slice a2_12 n2_12 c2_12), v2_13, v2_14] 49)).heap.size (((W.alloc (.cells #[v0_0, v0_1, v0_2] 25)).alloc (.cells #[v1_0, v1_1, v1_2, v1_3, v1_4, v1_5, v1_6, v1_7, v1_8, v1_9, v1_10, v1_11, v1_12, v1_13, v1_14, v1_15, v1_16, v1_17, v1_18, v1_19, v1_20, v1_21, v1_22, v1_23, v1_24] 38)).alloc (.cells #[v2_0, v2_1, v2_2, v2_3, (.slice a2_4 n2_4 c2_4), (.slice a2_5 n2_5 c2_5), v2_6, v2_7, (.slice a2_8 n2_8 c2_8), (.slice a2_9 n2_9 c2_9), v2_10, v2_11, (.slice a2_12 n2_12 c2_12), v2_13, v2_14] 49)) V → ∀ (i : Nat) u, ([v0_0, v0_1, v0_2] : List Value)[i]? = some u → V.cell? ⟨W.heap.size, i, none⟩ = some u) := hid fun V hV i u hu => by have := (hV.block _ (lt_of_block hz0)).trans hz0; simp only [World.cell?, this]; simpa using hu
  have HZ1 : Hid (∀ V, Below (((W.alloc (.cells #[v0_0, v0_1, v0_2] 25)).alloc (.cells #[v1_0, v1_1, v1_2, v1_3, v1_4, v1_5, v1_6, v1_7, v1_8, v1_9, v1_10, v1_11, v1_12, v1_13, v1_14, v1_15, v1_16, v1_17, v1_18, v1_19, v1_20, v1_21, v1_22, v1_23, v1_24] 38)).alloc (.cells #[v2_0, v2_1, v2_2, v2_3, (.slice a2_4 n2_4 c2_4), (.slice a2_5 n2_5 c2_5), v2_6, v2_7, (.slice a2_8 n2_8 c2_8), (.slice a2_9 n2_9 c2_9), v2_10, v2_11, (.slice a2_12 n2_12 c2_12), v2_13, v2_14] 49)).heap.size (((W.alloc (.cells #[v0_0, v0_1, v0_2] 25)).alloc (.cells #[v1_0, v1_1, v1_2, v1_3, v1_4, v1_5, v1_6, v1_7, v1_8, v1_9, v1_10, v1_11, v1_12, v1_13, v1_14, v1_15, v1_16, v1_17, v1_18, v1_19, v1_20, v1_21, v1_22, v1_23, v1_24] 38)).alloc (.cells #[v2_0, v2_1, v2_2, v2_3, (.slice a2_4 n2_4 c2_4), (.slice a2_5 n2_5 c2_5), v2_6, v2_7, (.slice a2_8 n2_8 c2_8), (.slice a2_9 n2_9 c2_9), v2_10, v2_11, (.slice a2_12 n2_12 c2_12), v2_13, v2_14] 49)) V → ∀ (i : Nat) u, ([v1_0, v1_1, v1_2, v1_3, v1_4, v1_5, v1_6, v1_7, v1_8, v1_9, v1_10, v1_11, v1_12, v1_13, v1_14, v1_15, v1_16, v1_17, v1_18, v1_19, v1_20, v1_21, v1_22, v1_23, v1_24] : List Value)[i]? = some u → V.cell? ⟨W.heap.size + 1, i, none⟩ = some u) := hid fun V hV i u hu => by have := (hV.block _ (lt_of_block hz1)).trans hz1; simp only [World.cell?, this]; simpa using hu
  have HZ2 : Hid (∀ V, Below (((W.alloc (.cells #[v0_0, v0_1, v0_2] 25)).alloc (.cells #[v1_0, v1_1, v1_2, v1_3, v1_4, v1_5, v1_6, v1_7, v1_8, v1_9, v1_10, v1_11, v1_12, v1_13, v1_14, v1_15, v1_16, v1_17, v1_18, v1_19, v1_20, v1_21, v1_22, v1_23, v1_24] 38)).alloc (.cells #[v2_0, v2_1, v2_2, v2_3, (.slice a2_4 n2_4 c2_4), (.slice a2_5 n2_5 c2_5), v2_6, v2_7, (.slice a2_8 n2_8 c2_8), (.slice a2_9 n2_9 c2_9), v2_10, v2_11, (.slice a2_12 n2_12 c2_12), v2_13, v2_14] 49)).heap.size (((W.alloc (.cells #[v0_0, v0_1, v0_2] 25)).alloc (.cells #[v1_0, v1_1, v1_2, v1_3, v1_4, v1_5, v1_6, v1_7, v1_8, v1_9, v1_10, v1_11, v1_12, v1_13, v1_14, v1_15, v1_16, v1_17, v1_18, v1_19, v1_20, v1_21, v1_22, v1_23, v1_24] 38)).alloc (.cells #[v2_0, v2_1, v2_2, v2_3, (.slice a2_4 n2_4 c2_4), (.slice a2_5 n2_5 c2_5), v2_6, v2_7, (.slice a2_8 n2_8 c2_8), (.slice a2_9 n2_9 c2_9), v2_10, v2_11, (.slice a2_12 n2_12 c2_12), v2_13, v2_14] 49)) V → ∀ (i : Nat) u, ([v2_0, v2_1, v2_2, v2_3, (.slice a2_4 n2_4 c2_4), (.slice a2_5 n2_5 c2_5), v2_6, v2_7, (.slice a2_8 n2_8 c2_8), (.slice a2_9 n2_9 c2_9), v2_10, v2_11, (.slice a2_12 n2_12 c2_12), v2_13, v2_14] : List Value)[i]? = some u → V.cell? ⟨W.heap.size + 2, i, none⟩ = some u) := hid fun V hV i u hu => by have := (hV.block _ (lt_of_block hz2)).trans hz2; simp only [World.cell?, this]; simpa using hu
  have LD0 : Hid (∀ V, Below (((W.alloc (.cells #[v0_0, v0_1, v0_2] 25)).alloc (.cells #[v1_0, v1_1, v1_2, v1_3, v1_4, v1_5, v1_6, v1_7, v1_8, v1_9, v1_10, v1_11, v1_12, v1_13, v1_14, v1_15, v1_16, v1_17, v1_18, v1_19, v1_20, v1_21, v1_22, v1_23, v1_24] 38)).alloc (.cells #[v2_0, v2_1, v2_2, v2_3, (.slice a2_4 n2_4 c2_4), (.slice a2_5 n2_5 c2_5), v2_6, v2_7, (.slice a2_8 n2_8 c2_8), (.slice a2_9 n2_9 c2_9), v2_10, v2_11, (.slice a2_12 n2_12 c2_12), v2_13, v2_14] 49)).heap.size (((W.alloc (.cells #[v0_0, v0_1, v0_2] 25)).alloc (.cells #[v1_0, v1_1, v1_2, v1_3, v1_4, v1_5, v1_6, v1_7, v1_8, v1_9, v1_10, v1_11, v1_12, v1_13, v1_14, v1_15, v1_16, v1_17, v1_18, v1_19, v1_20, v1_21, v1_22, v1_23, v1_24] 38)).alloc (.cells #[v2_0, v2_1, v2_2, v2_3, (.slice a2_4 n2_4 c2_4), (.slice a2_5 n2_5 c2_5), v2_6, v2_7, (.slice a2_8 n2_8 c2_8), (.slice a2_9 n2_9 c2_9), v2_10, v2_11, (.slice a2_12 n2_12 c2_12), v2_13, v2_14] 49)) V → (Instr.loadAt 25 (.pointer (some ⟨W.heap.size, 0, none⟩))).run Try.prog V = .ok U0 V) := hid fun V hV => by have := cells_load (HZ0.out V hV) Try.underlying25 rfl (by kernel_rfl); rw [hU0]; exact this
  have LD1 : Hid (∀ V, Below (((W.alloc (.cells #[v0_0, v0_1, v0_2] 25)).alloc (.cells #[v1_0, v1_1, v1_2, v1_3, v1_4, v1_5, v1_6, v1_7, v1_8, v1_9, v1_10, v1_11, v1_12, v1_13, v1_14, v1_15, v1_16, v1_17, v1_18, v1_19, v1_20, v1_21, v1_22, v1_23, v1_24] 38)).alloc (.cells #[v2_0, v2_1, v2_2, v2_3, (.slice a2_4 n2_4 c2_4), (.slice a2_5 n2_5 c2_5), v2_6, v2_7, (.slice a2_8 n2_8 c2_8), (.slice a2_9 n2_9 c2_9), v2_10, v2_11, (.slice a2_12 n2_12 c2_12), v2_13, v2_14] 49)).heap.size (((W.alloc (.cells #[v0_0, v0_1, v0_2] 25)).alloc (.cells #[v1_0, v1_1, v1_2, v1_3, v1_4, v1_5, v1_6, v1_7, v1_8, v1_9, v1_10, v1_11, v1_12, v1_13, v1_14, v1_15, v1_16, v1_17, v1_18, v1_19, v1_20, v1_21, v1_22, v1_23, v1_24] 38)).alloc (.cells #[v2_0, v2_1, v2_2, v2_3, (.slice a2_4 n2_4 c2_4), (.slice a2_5 n2_5 c2_5), v2_6, v2_7, (.slice a2_8 n2_8 c2_8), (.slice a2_9 n2_9 c2_9), v2_10, v2_11, (.slice a2_12 n2_12 c2_12), v2_13, v2_14] 49)) V → (Instr.loadAt 38 (.pointer (some ⟨W.heap.size + 1, 0, none⟩))).run Try.prog V = .ok U1 V) := hid fun V hV => by have := cells_load (HZ1.out V hV) Try.underlying38 rfl (by kernel_rfl); rw [hU1]; exact this
  have LD2 : Hid (∀ V, Below (((W.alloc (.cells #[v0_0, v0_1, v0_2] 25)).alloc (.cells #[v1_0, v1_1, v1_2, v1_3, v1_4, v1_5, v1_6, v1_7, v1_8, v1_9, v1_10, v1_11, v1_12, v1_13, v1_14, v1_15, v1_16, v1_17, v1_18, v1_19, v1_20, v1_21, v1_22, v1_23, v1_24] 38)).alloc (.cells #[v2_0, v2_1, v2_2, v2_3, (.slice a2_4 n2_4 c2_4), (.slice a2_5 n2_5 c2_5), v2_6, v2_7, (.slice a2_8 n2_8 c2_8), (.slice a2_9 n2_9 c2_9), v2_10, v2_11, (.slice a2_12 n2_12 c2_12), v2_13, v2_14] 49)).heap.size (((W.alloc (.cells #[v0_0, v0_1, v0_2] 25)).alloc (.cells #[v1_0, v1_1, v1_2, v1_3, v1_4, v1_5, v1_6, v1_7, v1_8, v1_9, v1_10, v1_11, v1_12, v1_13, v1_14, v1_15, v1_16, v1_17, v1_18, v1_19, v1_20, v1_21, v1_22, v1_23, v1_24] 38)).alloc (.cells #[v2_0, v2_1, v2_2, v2_3, (.slice a2_4 n2_4 c2_4), (.slice a2_5 n2_5 c2_5), v2_6, v2_7, (.slice a2_8 n2_8 c2_8), (.slice a2_9 n2_9 c2_9), v2_10, v2_11, (.slice a2_12 n2_12 c2_12), v2_13, v2_14] 49)) V → (Instr.loadAt 49 (.pointer (some ⟨W.heap.size + 2, 0, none⟩))).run Try.prog V = .ok U2 V) := hid fun V hV => by have := cells_load (HZ2.out V hV) Try.underlying49 rfl (by kernel_rfl); rw [hU2]; exact this
  have HB0 := hid hb0
  clear hb0 hz0 hz1 hz2
  go_enter Try.func3, Try.ntmps3
  go_upto_region 1 with fail
  generalize ((W.alloc (.cells #[v0_0, v0_1, v0_2] 25)).alloc (.cells #[v1_0, v1_1, v1_2, v1_3, v1_4, v1_5, v1_6, v1_7, v1_8, v1_9, v1_10, v1_11, v1_12, v1_13, v1_14, v1_15, v1_16, v1_17, v1_18, v1_19, v1_20, v1_21, v1_22, v1_23, v1_24] 38)).alloc (.cells #[v2_0, v2_1, v2_2, v2_3, (.slice a2_4 n2_4 c2_4), (.slice a2_5 n2_5 c2_5), v2_6, v2_7, (.slice a2_8 n2_8 c2_8), (.slice a2_9 n2_9 c2_9), v2_10, v2_11, (.slice a2_12 n2_12 c2_12), v2_13, v2_14] 49) = w1 at *
  have HB1 : Hid (∀ V, Below w1.heap.size w1 V → Below W.heap.size W V) := hid fun V hV => HB0.out.trans (hV.mono HB0.out.size)
  rw [← hU0, ← hU1, ← hU2]
  clear hU0 hU1 hU2
  apply wp_region_lit
  refine Great.wpList_readTo rfl (some 7) rfl U1 (exec_load rfl (LD1.out _ (Below.refl _ _))) ?_
  simp only [Act.put, List.getElem_toArray, List.getElem_cons_succ, List.getElem_cons_zero, List.setIfInBounds_toArray, List.set_cons_succ, List.set_cons_zero]
  have z2_4 := HZ2.out _ (Below.refl _ _) 4 _ rfl
  have z2_8 := HZ2.out _ (Below.refl _ _) 8 _ rfl
  have z2_9 := HZ2.out _ (Below.refl _ _) 9 _ rfl
  have z2_5 := HZ2.out _ (Below.refl _ _) 5 _ rfl
  have z2_12 := HZ2.out _ (Below.refl _ _) 12 _ rfl
  cases qc with
  | false =>
    go_wp2_with (first | (go_at_call 6; refine (CQ.out _).mono ?_; rintro en wq ⟨rfl, hbq⟩; have HBq := hid hbq;  clear hbq) | (go_at_call 7; refine (xawake_any _).mono ?_; rintro en w2 ⟨rfl, hb2⟩; have HB2 := hid (HB1.out _ (HBq.out.trans (hb2.mono HBq.out.size))); clear hb2))
    go_ret
    exact ⟨rfl, HB2.out⟩
  | true =>
    by_cases q1 : (300 : Int) < (n2_4 : Int)
    · go_wp2_with (first | (go_at_call 6; refine (CQ.out _).mono ?_; rintro en wq ⟨rfl, hbq⟩; have HBq := hid hbq; clear hbq; have z2_4 := HZ2.out _ HBq.out 4 _ rfl;  have z2_8 := HZ2.out _ HBq.out 8 _ rfl;  have z2_9 := HZ2.out _ HBq.out 9 _ rfl;  have z2_5 := HZ2.out _ HBq.out 5 _ rfl;  have z2_12 := HZ2.out _ HBq.out 12 _ rfl) | (go_at_call 7; refine (xawake_any _).mono ?_; rintro en w2 ⟨rfl, hb2⟩; have HB2 := hid (HB1.out _ (HBq.out.trans (hb2.mono HBq.out.size))); clear hb2))
      go_ret
      exact ⟨rfl, HB2.out⟩
    · skip
      have hs2 : IntKind.i64.wrap ((n2_8 : Int) + (n2_9 : Int)) = (n2_8 : Int) + (n2_9 : Int) := by rw [IntKind.wrap_i64]; omega
      by_cases q2 : (60 : Int) < (n2_8 : Int) + (n2_9 : Int)
      · go_wp2_with (first | (go_at_call 6; refine (CQ.out _).mono ?_; rintro en wq ⟨rfl, hbq⟩; have HBq := hid hbq; clear hbq; have z2_4 := HZ2.out _ HBq.out 4 _ rfl;  have z2_8 := HZ2.out _ HBq.out 8 _ rfl;  have z2_9 := HZ2.out _ HBq.out 9 _ rfl;  have z2_5 := HZ2.out _ HBq.out 5 _ rfl;  have z2_12 := HZ2.out _ HBq.out 12 _ rfl) | (go_at_call 7; refine (xawake_any _).mono ?_; rintro en w2 ⟨rfl, hb2⟩; have HB2 := hid (HB1.out _ (HBq.out.trans (hb2.mono HBq.out.size))); clear hb2))
        go_ret
        exact ⟨rfl, HB2.out⟩
      · skip
        by_cases q3 : (300 : Int) < (n2_5 : Int)
        · go_wp2_with (first | (go_at_call 6; refine (CQ.out _).mono ?_; rintro en wq ⟨rfl, hbq⟩; have HBq := hid hbq; clear hbq; have z2_4 := HZ2.out _ HBq.out 4 _ rfl;  have z2_8 := HZ2.out _ HBq.out 8 _ rfl;  have z2_9 := HZ2.out _ HBq.out 9 _ rfl;  have z2_5 := HZ2.out _ HBq.out 5 _ rfl;  have z2_12 := HZ2.out _ HBq.out 12 _ rfl) | (go_at_call 7; refine (xawake_any _).mono ?_; rintro en w2 ⟨rfl, hb2⟩; have HB2 := hid (HB1.out _ (HBq.out.trans (hb2.mono HBq.out.size))); clear hb2))
          go_ret
          exact ⟨rfl, HB2.out⟩
        · skip
          by_cases q4 : (60 : Int) < (n2_12 : Int)
          · go_wp2_with (first | (go_at_call 6; refine (CQ.out _).mono ?_; rintro en wq ⟨rfl, hbq⟩; have HBq := hid hbq; clear hbq; have z2_4 := HZ2.out _ HBq.out 4 _ rfl;  have z2_8 := HZ2.out _ HBq.out 8 _ rfl;  have z2_9 := HZ2.out _ HBq.out 9 _ rfl;  have z2_5 := HZ2.out _ HBq.out 5 _ rfl;  have z2_12 := HZ2.out _ HBq.out 12 _ rfl) | (go_at_call 7; refine (xawake_any _).mono ?_; rintro en w2 ⟨rfl, hb2⟩; have HB2 := hid (HB1.out _ (HBq.out.trans (hb2.mono HBq.out.size))); clear hb2))
            go_ret
            exact ⟨rfl, HB2.out⟩
          · skip
            go_upto_region 3 with (first | (go_at_call 6; refine (CQ.out _).mono ?_; rintro en wq ⟨rfl, hbq⟩; have HBq := hid hbq; clear hbq; have z2_4 := HZ2.out _ HBq.out 4 _ rfl;  have z2_8 := HZ2.out _ HBq.out 8 _ rfl;  have z2_9 := HZ2.out _ HBq.out 9 _ rfl;  have z2_5 := HZ2.out _ HBq.out 5 _ rfl;  have z2_12 := HZ2.out _ HBq.out 12 _ rfl) | fail)
            generalize wq = w4 at *
            have HX : Hid (Below w1.heap.size w1 w4) := HBq
            clear z2_4 z2_8 z2_9 z2_5 z2_12
            obtain ⟨S9, hS9⟩ : ∃ S9 : World → Prop, S9 = fun V => Below w1.heap.size w1 V := ⟨_, rfl⟩
            have HS : Hid (∀ V, Below w1.heap.size w1 V → S9 V) := hid fun V h => by rw [hS9]; exact h
            have HSI : Hid (∀ V, S9 V → Below w1.heap.size w1 V) := hid fun V h => by rw [hS9] at h; exact h
            have HWd : Hid (Below w1.heap.size w1 w4.drew) := hid (HX.out.trans ((show Below w4.heap.size w4 w4.drew from ⟨rfl, rfl, rfl, Nat.le_refl _, fun _ _ => rfl⟩).mono HX.out.size))
            have CBY : ∀ (l : List UInt8) (V : World) (x y : Value), Rd V x l → Rd V y l → Calls Try.prog 8 #[x, y] V (fun e w' => e = .returned (.bool true) ∧ V = w') := fun l V x y hx hy => by have := bytes_any x y l l V hx hy; simpa using this
            have HBY := hid CBY
            clear hS9 CBY
            refine wp_region_noPanic ?_
            refine wp_region_held_drew (S := S9) (by kernel_rfl) (HS.out _ HWd.out) (fun hHeld => ?_)
            generalize w4.drew = Wd at *
            refine wpAnyH_ready (rs := [0]) (by kernel_rfl) (by simp) ?_
            refine AllReadyH.cons rfl (fun K hK => ?_) AllReadyH.nil
            go_simp
            go_wp2_with (first | (go_at_call 7; refine (xawake_any _).mono ?_; rintro en wA ⟨rfl, hbA⟩; have HBA := hid (HWd.out.trans (hbA.mono HWd.out.size)); clear hbA))
            refine hK.out _ _ (HS.out _ HBA.out) (fun hHeld => ?_)
            clear hK K
            refine wpAnyH_take (i := 1) (v := (.bool true)) rfl (by kernel_rfl) (by kernel_rfl) (by kernel_rfl) (fun _ _ _ h => (show False from h).elim) ?xyWLWireCalls1 ?xhWLWireCalls1 ?xrWLWireCalls1
            case xhWLWireCalls1 => exact hHeld
            case xyWLWireCalls1 => exact Or.inl ⟨by rfl, fun W9 hW => by clear hHeld; simp only [List.getElem_toArray, List.getElem_cons_succ, List.getElem_cons_zero]; go_simp⟩
            simp only [Act.put, List.getElem_toArray, List.getElem_cons_succ, List.getElem_cons_zero, List.setIfInBounds_toArray, List.set_cons_succ, List.set_cons_zero]
            refine wpAnyH_take (i := 2) (v := (U0)) rfl (by kernel_rfl) (by kernel_rfl) (by kernel_rfl) (fun _ _ _ h => (show False from h).elim) ?xyWLWireCalls2 ?xhWLWireCalls2 ?xrWLWireCalls2
            case xhWLWireCalls2 => exact hHeld
            case xyWLWireCalls2 => exact Or.inl ⟨by rfl, fun W9 hW => by clear hHeld; simp only [List.getElem_toArray, List.getElem_cons_succ, List.getElem_cons_zero]; exact exec_load (t := 25) (x := .tmp 3) rfl (LD0.out _ (HSI.out _ hW))⟩
            simp only [Act.put, List.getElem_toArray, List.getElem_cons_succ, List.getElem_cons_zero, List.setIfInBounds_toArray, List.set_cons_succ, List.set_cons_zero]
            refine wpAnyH_take (i := 4) (v := (U0)) rfl (by kernel_rfl) (by kernel_rfl) (by kernel_rfl) (fun _ _ _ h => (show False from h).elim) ?xyWLWireCalls3 ?xhWLWireCalls3 ?xrWLWireCalls3
            case xhWLWireCalls3 => exact hHeld
            case xyWLWireCalls3 => exact Or.inl ⟨by rfl, fun W9 hW => by clear hHeld; simp only [List.getElem_toArray, List.getElem_cons_succ, List.getElem_cons_zero]; exact exec_load (t := 25) (x := .tmp 3) rfl (LD0.out _ (HSI.out _ hW))⟩
            simp only [Act.put, List.getElem_toArray, List.getElem_cons_succ, List.getElem_cons_zero, List.setIfInBounds_toArray, List.set_cons_succ, List.set_cons_zero]
            have CC0 := hid (CW0.out _ (HB1.out _ HBA.out))
            refine wpAnyH_ready (rs := [3]) (by kernel_rfl) (by simp) ?_
            refine AllReadyH.cons rfl (fun K hK => ?_) AllReadyH.nil
            go_simp
            go_wp2_with (first | (go_at_call 9; refine CC0.out.mono ?_; rintro en wP0 ⟨x0, rfl, ho0, hb0⟩; have HR0 := hid (Rd.own ho0); have HP0 := hid (HBA.out.trans (hb0.mono HBA.out.size)); clear ho0 hb0))
            refine hK.out _ _ (HS.out _ HP0.out) (fun hHeld => ?_)
            clear hK K
            have CD0 := hid (CR0.out _ (HB1.out _ HP0.out))
            refine wpAnyH_ready (rs := [5]) (by kernel_rfl) (by simp) ?_
            refine AllReadyH.cons rfl (fun K hK => ?_) AllReadyH.nil
            go_simp
            go_wp2_with (first | (go_at_call 10; refine CD0.out.mono ?_; rintro en wQ0 ⟨y0, rfl, ho0, hb0⟩; have HT0 := hid (Rd.own ho0); have HQ0 := hid (HP0.out.trans (hb0.mono HP0.out.size)); have HU0 := hid (HR0.out.old hb0); clear ho0 hb0))
            refine hK.out _ _ (HS.out _ HQ0.out) (fun hHeld => ?_)
            clear hK K
            have CE0 := hid (HBY.out _ _ _ _ HU0.out HT0.out)
            refine wpAnyH_ready (rs := [6]) (by kernel_rfl) (by simp) ?_
            refine AllReadyH.cons rfl (fun K hK => ?_) AllReadyH.nil
            go_simp
            go_wp2_with (first | (go_at_call 8; refine CE0.out.mono ?_; rintro en wE0 ⟨rfl, rfl⟩))
            refine hK.out _ _ (HS.out _ HQ0.out) (fun hHeld => ?_)
            clear hK K
            refine wpAnyH_take (i := 7) (v := (.bool true)) rfl (by kernel_rfl) (by kernel_rfl) (by kernel_rfl) (fun _ _ _ h => (show False from h).elim) ?xyWLWireCalls4 ?xhWLWireCalls4 ?xrWLWireCalls4
            case xhWLWireCalls4 => exact hHeld
            case xyWLWireCalls4 => exact Or.inl ⟨by rfl, fun W9 hW => by clear hHeld; simp only [List.getElem_toArray, List.getElem_cons_succ, List.getElem_cons_zero]; go_simp⟩
            simp only [Act.put, List.getElem_toArray, List.getElem_cons_succ, List.getElem_cons_zero, List.setIfInBounds_toArray, List.set_cons_succ, List.set_cons_zero]
            refine wpAnyH_take (i := 8) (v := (.bool true)) rfl (by kernel_rfl) (by kernel_rfl) (by kernel_rfl) (fun _ _ _ h => (show False from h).elim) ?xyWLWireCalls5 ?xhWLWireCalls5 ?xrWLWireCalls5
            case xhWLWireCalls5 => exact hHeld
            case xyWLWireCalls5 => exact Or.inl ⟨by rfl, fun W9 hW => by clear hHeld; simp only [List.getElem_toArray, List.getElem_cons_succ, List.getElem_cons_zero]; go_simp⟩
            simp only [Act.put, List.getElem_toArray, List.getElem_cons_succ, List.getElem_cons_zero, List.setIfInBounds_toArray, List.set_cons_succ, List.set_cons_zero]
            refine wpAnyH_take (i := 9) (v := (U1)) rfl (by kernel_rfl) (by kernel_rfl) (by kernel_rfl) (fun _ _ _ h => (show False from h).elim) ?xyWLWireCalls6 ?xhWLWireCalls6 ?xrWLWireCalls6
            case xhWLWireCalls6 => exact hHeld
            case xyWLWireCalls6 => exact Or.inl ⟨by rfl, fun W9 hW => by clear hHeld; simp only [List.getElem_toArray, List.getElem_cons_succ, List.getElem_cons_zero]; exact exec_load (t := 38) (x := .tmp 4) rfl (LD1.out _ (HSI.out _ hW))⟩
            simp only [Act.put, List.getElem_toArray, List.getElem_cons_succ, List.getElem_cons_zero, List.setIfInBounds_toArray, List.set_cons_succ, List.set_cons_zero]
            refine wpAnyH_take (i := 11) (v := (U1)) rfl (by kernel_rfl) (by kernel_rfl) (by kernel_rfl) (fun _ _ _ h => (show False from h).elim) ?xyWLWireCalls7 ?xhWLWireCalls7 ?xrWLWireCalls7
            case xhWLWireCalls7 => exact hHeld
            case xyWLWireCalls7 => exact Or.inl ⟨by rfl, fun W9 hW => by clear hHeld; simp only [List.getElem_toArray, List.getElem_cons_succ, List.getElem_cons_zero]; exact exec_load (t := 38) (x := .tmp 4) rfl (LD1.out _ (HSI.out _ hW))⟩
            simp only [Act.put, List.getElem_toArray, List.getElem_cons_succ, List.getElem_cons_zero, List.setIfInBounds_toArray, List.set_cons_succ, List.set_cons_zero]
            have CC1 := hid (CW1.out _ (HB1.out _ HQ0.out))
            refine wpAnyH_ready (rs := [10]) (by kernel_rfl) (by simp) ?_
            refine AllReadyH.cons rfl (fun K hK => ?_) AllReadyH.nil
            go_simp
            go_wp2_with (first | (go_at_call 11; refine CC1.out.mono ?_; rintro en wP1 ⟨x1, rfl, ho1, hb1⟩; have HR1 := hid (Rd.own ho1); have HP1 := hid (HQ0.out.trans (hb1.mono HQ0.out.size)); clear ho1 hb1))
            refine hK.out _ _ (HS.out _ HP1.out) (fun hHeld => ?_)
            clear hK K
            have CD1 := hid (CR1.out _ (HB1.out _ HP1.out))
            refine wpAnyH_ready (rs := [12]) (by kernel_rfl) (by simp) ?_
            refine AllReadyH.cons rfl (fun K hK => ?_) AllReadyH.nil
            go_simp
            go_wp2_with (first | (go_at_call 12; refine CD1.out.mono ?_; rintro en wQ1 ⟨y1, rfl, ho1, hb1⟩; have HT1 := hid (Rd.own ho1); have HQ1 := hid (HP1.out.trans (hb1.mono HP1.out.size)); have HU1 := hid (HR1.out.old hb1); clear ho1 hb1))
            refine hK.out _ _ (HS.out _ HQ1.out) (fun hHeld => ?_)
            clear hK K
            have CE1 := hid (HBY.out _ _ _ _ HU1.out HT1.out)
            refine wpAnyH_ready (rs := [13]) (by kernel_rfl) (by simp) ?_
            refine AllReadyH.cons rfl (fun K hK => ?_) AllReadyH.nil
            go_simp
            go_wp2_with (first | (go_at_call 8; refine CE1.out.mono ?_; rintro en wE1 ⟨rfl, rfl⟩))
            refine hK.out _ _ (HS.out _ HQ1.out) (fun hHeld => ?_)
            clear hK K
            refine wpAnyH_take (i := 14) (v := (.bool true)) rfl (by kernel_rfl) (by kernel_rfl) (by kernel_rfl) (fun _ _ _ h => (show False from h).elim) ?xyWLWireCalls8 ?xhWLWireCalls8 ?xrWLWireCalls8
            case xhWLWireCalls8 => exact hHeld
            case xyWLWireCalls8 => exact Or.inl ⟨by rfl, fun W9 hW => by clear hHeld; simp only [List.getElem_toArray, List.getElem_cons_succ, List.getElem_cons_zero]; go_simp⟩
            simp only [Act.put, List.getElem_toArray, List.getElem_cons_succ, List.getElem_cons_zero, List.setIfInBounds_toArray, List.set_cons_succ, List.set_cons_zero]
            refine wpAnyH_take (i := 15) (v := (.bool true)) rfl (by kernel_rfl) (by kernel_rfl) (by kernel_rfl) (fun _ _ _ h => (show False from h).elim) ?xyWLWireCalls9 ?xhWLWireCalls9 ?xrWLWireCalls9
            case xhWLWireCalls9 => exact hHeld
            case xyWLWireCalls9 => exact Or.inl ⟨by rfl, fun W9 hW => by clear hHeld; simp only [List.getElem_toArray, List.getElem_cons_succ, List.getElem_cons_zero]; go_simp⟩
            simp only [Act.put, List.getElem_toArray, List.getElem_cons_succ, List.getElem_cons_zero, List.setIfInBounds_toArray, List.set_cons_succ, List.set_cons_zero]
            refine wpAnyH_take (i := 16) (v := (U2)) rfl (by kernel_rfl) (by kernel_rfl) (by kernel_rfl) (fun _ _ _ h => (show False from h).elim) ?xyWLWireCalls10 ?xhWLWireCalls10 ?xrWLWireCalls10
            case xhWLWireCalls10 => exact hHeld
            case xyWLWireCalls10 => exact Or.inl ⟨by rfl, fun W9 hW => by clear hHeld; simp only [List.getElem_toArray, List.getElem_cons_succ, List.getElem_cons_zero]; exact exec_load (t := 49) (x := .tmp 5) rfl (LD2.out _ (HSI.out _ hW))⟩
            simp only [Act.put, List.getElem_toArray, List.getElem_cons_succ, List.getElem_cons_zero, List.setIfInBounds_toArray, List.set_cons_succ, List.set_cons_zero]
            refine wpAnyH_take (i := 18) (v := (U2)) rfl (by kernel_rfl) (by kernel_rfl) (by kernel_rfl) (fun _ _ _ h => (show False from h).elim) ?xyWLWireCalls11 ?xhWLWireCalls11 ?xrWLWireCalls11
            case xhWLWireCalls11 => exact hHeld
            case xyWLWireCalls11 => exact Or.inl ⟨by rfl, fun W9 hW => by clear hHeld; simp only [List.getElem_toArray, List.getElem_cons_succ, List.getElem_cons_zero]; exact exec_load (t := 49) (x := .tmp 5) rfl (LD2.out _ (HSI.out _ hW))⟩
            simp only [Act.put, List.getElem_toArray, List.getElem_cons_succ, List.getElem_cons_zero, List.setIfInBounds_toArray, List.set_cons_succ, List.set_cons_zero]
            have CC2 := hid (CW2.out _ (HB1.out _ HQ1.out))
            refine wpAnyH_ready (rs := [17]) (by kernel_rfl) (by simp) ?_
            refine AllReadyH.cons rfl (fun K hK => ?_) AllReadyH.nil
            go_simp
            go_wp2_with (first | (go_at_call 13; refine CC2.out.mono ?_; rintro en wP2 ⟨x2, rfl, ho2, hb2⟩; have HR2 := hid (Rd.own ho2); have HP2 := hid (HQ1.out.trans (hb2.mono HQ1.out.size)); clear ho2 hb2))
            refine hK.out _ _ (HS.out _ HP2.out) (fun hHeld => ?_)
            clear hK K
            have CD2 := hid (CR2.out _ (HB1.out _ HP2.out))
            refine wpAnyH_ready (rs := [19]) (by kernel_rfl) (by simp) ?_
            refine AllReadyH.cons rfl (fun K hK => ?_) AllReadyH.nil
            go_simp
            go_wp2_with (first | (go_at_call 14; refine CD2.out.mono ?_; rintro en wQ2 ⟨y2, rfl, ho2, hb2⟩; have HT2 := hid (Rd.own ho2); have HQ2 := hid (HP2.out.trans (hb2.mono HP2.out.size)); have HU2 := hid (HR2.out.old hb2); clear ho2 hb2))
            refine hK.out _ _ (HS.out _ HQ2.out) (fun hHeld => ?_)
            clear hK K
            have CE2 := hid (HBY.out _ _ _ _ HU2.out HT2.out)
            refine wpAnyH_ready (rs := [20]) (by kernel_rfl) (by simp) ?_
            refine AllReadyH.cons rfl (fun K hK => ?_) AllReadyH.nil
            go_simp
            go_wp2_with (first | (go_at_call 8; refine CE2.out.mono ?_; rintro en wE2 ⟨rfl, rfl⟩))
            refine hK.out _ _ (HS.out _ HQ2.out) (fun hHeld => ?_)
            clear hK K
            refine wpAnyH_take (i := 21) (v := (.bool true)) rfl (by kernel_rfl) (by kernel_rfl) (by kernel_rfl) (fun _ _ _ h => (show False from h).elim) ?xyWLWireCalls12 ?xhWLWireCalls12 ?xrWLWireCalls12
            case xhWLWireCalls12 => exact hHeld
            case xyWLWireCalls12 => exact Or.inl ⟨by rfl, fun W9 hW => by clear hHeld; simp only [List.getElem_toArray, List.getElem_cons_succ, List.getElem_cons_zero]; go_simp⟩
            simp only [Act.put, List.getElem_toArray, List.getElem_cons_succ, List.getElem_cons_zero, List.setIfInBounds_toArray, List.set_cons_succ, List.set_cons_zero]
            refine wpAnyH_take (i := 22) (v := (.bool true)) rfl (by kernel_rfl) (by kernel_rfl) (by kernel_rfl) (fun _ _ _ h => (show False from h).elim) ?xyWLWireCalls13 ?xhWLWireCalls13 ?xrWLWireCalls13
            case xhWLWireCalls13 => exact hHeld
            case xyWLWireCalls13 => exact Or.inl ⟨by rfl, fun W9 hW => by clear hHeld; simp only [List.getElem_toArray, List.getElem_cons_succ, List.getElem_cons_zero]; go_simp⟩
            simp only [Act.put, List.getElem_toArray, List.getElem_cons_succ, List.getElem_cons_zero, List.setIfInBounds_toArray, List.set_cons_succ, List.set_cons_zero]
            refine wpAnyH_done (by kernel_rfl) ?_ _
            refine NoPanic.normal ?_
            go_wp2_with fail
            go_ret
            exact ⟨rfl, HB1.out _ HQ2.out⟩

end wireCallsUpto
end Go.Proofs.Ytiblambiebojmaa
